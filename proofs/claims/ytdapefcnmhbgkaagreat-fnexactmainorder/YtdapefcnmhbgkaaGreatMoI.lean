/-
  impl's mainOrder.
-/
import Derived.Test.YtdapefcnmhbgkaaGreatDpI
import Derived.Test.YtdapefcnmhbgkaaGreatMrk
import Derived.Test.YtdapefcnmhbgkaaGreatSoN
namespace Go.Proofs.YtdapefcnmhbgkaaGreat
open Go.RowKit Go.Maps Go.ChangeMaps

theorem plsL_lt (M : Nat → Bool) : ∀ k, (plsL M k).Pairwise (· < ·)
  | 0 => List.Pairwise.nil
  | k + 1 => by
    have ih := plsL_lt M k
    unfold plsL
    split
    · refine List.pairwise_append.2 ⟨ih, List.pairwise_singleton _ _, fun p hp q hq => ?_⟩
      rw [List.mem_singleton] at hq
      rw [hq]
      exact ((plsL_mem M p k).1 hp).1
    · exact ih

/-- what the sort leaves, from the call's beginning. -/
def SoFin (wb : World) (base : Nat) (v : Value) (l : List Nat) (E : Nat → Ev) (D : Nat → Nat) (w4 : World) : Prop :=
  ∃ l' : List Nat, OwnI w4 base v l'.length (lX l') ∧ l'.Perm l ∧ l'.Pairwise (Bef E D) ∧ Below base wb w4

theorem InAt.sl {w : World} {b n : Nat} {M : Nat → Int} (h : InAt w b n M) (p : Nat) (hp : p < n) : w.cell? ⟨b, 0 + p, none⟩ = some (.int .i64 (M p)) := by rw [Nat.zero_add]; exact (h.2 p hp).1

theorem so_arm {wb w1 w2 w3 W : World} {base n bg bw cap db : Nat} {a : Option Addr} {v : Value} {l : List Nat} {E : Nat → Ev} {D : Nat → Nat} (hroom : roomTo E n = true) (hl : l.Pairwise (· < ·)) (hmem : ∀ i ∈ l, i < n) (hll : l.length ≤ 1000000)
    (hb1 : Below base wb w1) (hbs : base ≤ wb.heap.size) (h : SlV w1 a n cap E) (hev : ∀ b off, a = some ⟨b, off, none⟩ → 0 < n → b < base) (ho1 : OwnI w1 base v l.length (lX l)) (h12 : Below w1.heap.size w1 w2) (hin : InAt w2 db n (fun i => (D i : Int))) (hdb : w1.heap.size ≤ db)
    (h23 : Below w2.heap.size w2 w3) (hbg : w2.heap.size ≤ bg) (hbw : w2.heap.size ≤ bw) (hc1 : w3.cell? ⟨bg, 0, none⟩ = some (.slice a n cap)) (hc2 : w3.cell? ⟨bw, 0, none⟩ = some (.slice (some ⟨db, 0, none⟩) n n)) (h3W : Below w3.heap.size w3 W) :
    Calls Tryz.prog 41 #[v, .func (.func 56) #[] #[.pointer (some ⟨bg, 0, none⟩), .pointer (some ⟨bw, 0, none⟩)]] W fun e w4 => e = .returned (.tuple #[]) ∧ SoFin wb base v l E D w4 := by
  have h13 := h12.trans (h23.mono h12.size)
  have h1W := h13.trans (h3W.mono h13.size)
  have hs12 := h12.size
  have hsW := h1W.size
  have hsb := hb1.size
  have hbW := hb1.trans (h1W.mono (by omega))
  have hown : OwnI W base v l.length (lX l) := ho1.below h1W
  have hvb : ∀ g, v.ownBlock = some g → base ≤ g ∧ g < w1.heap.size := fun g hg => World.ownsRow.lt ho1 g hg
  have fin : ∀ e w4, SoPostN W base v l E D e w4 → e = .returned (.tuple #[]) ∧ SoFin wb base v l E D w4 := by
    rintro e w4 ⟨rfl, l', ho, hperm, hpw, hg⟩
    refine ⟨rfl, l', ho, hperm, ?_, hbW.grown hg (by omega) (fun g hg' => (hvb g hg').1)⟩
    have hnd : l'.Pairwise (fun a b => a ≠ b) := (hperm.symm.nodup (hl.imp fun {a b} hab => Nat.ne_of_lt hab))
    refine (List.Pairwise.and hpw hnd).imp_of_mem fun {x y} hx hy hxy => ?_
    rcases Bef.total (D := D) hroom (hmem x (hperm.mem_iff.1 hx)) (hmem y (hperm.mem_iff.1 hy)) hxy.2 with h1 | h1
    · exact h1
    · exact absurd h1 hxy.1
  rcases Nat.eq_zero_or_pos n with h0 | hpos
  · have hnil : l = [] := by
      rcases l with _ | ⟨x, l⟩
      · rfl
      · have := hmem x (List.mem_cons_self ..); omega
    exact (sortN_own (bg := bg) (bw := bw) (b := 0) (off := 0) (cp := 0) (db := 0) (dc := 0) hroom hown hmem hll (fun hq => absurd hnil hq) (fun _ _ hq => absurd hnil hq)).mono fin
  · rcases h.cells with h0 | ⟨b, off, rfl, hb, hc⟩
    · omega
    have hbb := hev b off rfl hpos
    have k1 : ∀ o x, w1.cell? ⟨b, o, none⟩ = some x → W.cell? ⟨b, o, none⟩ = some x := fun o x hx => (h1W.cell (by exact hb)).trans hx
    have hG : GfAt W bg bw b off n cap db n E (fun i => (D i : Int)) := by
      refine ⟨(h3W.cell (by exact cell_lt hc1)).trans hc1, (h3W.cell (by exact cell_lt hc2)).trans hc2, fun p hp => ?_, fun p hp => ?_, fun p hp => ?_⟩
      · obtain ⟨_, _, _, _, _, _, hec, _⟩ := hc p hp
        exact k1 _ _ hec.c0
      · obtain ⟨_, _, _, _, _, _, hec, _⟩ := hc p hp
        exact k1 _ _ hec.c5
      · have h2W := h23.trans (h3W.mono h23.size)
        exact (h2W.cell (by exact hin.1)).trans (hin.sl p hp)
    exact (sortN_own hroom hown hmem hll (fun _ => hG) (fun g hg _ => by
      have := hvb g hg
      exact ⟨by omega, by omega, by omega, by omega⟩)).mono fin

/-- what mainOrder answers. -/
def MoIPost (w : World) (E : Nat → Ev) (n : Nat) (l : List Nat) (M : Nat → Bool) (e : Ending) (w' : World) : Prop :=
  ∃ v o, e = .returned v ∧ OwnI w' w.heap.size v o.length (lX o) ∧ o.Perm (plsL M n) ∧ o.Pairwise (Bef E (fun p : Nat => dp E n l (p : Int))) ∧ Below w.heap.size w w'

set_option maxRecDepth 100000 in
set_option maxHeartbeats 2000000 in
theorem moI_sl {a : Option Addr} {n cap m : Nat} {E : Nat → Ev} {ra : Option Addr} {rc : Nat} {bm : Nat} {M : Nat → Bool} {la : Option Addr} {lc : Nat} {l : List Nat} (w : World) (hroom : roomTo E n = true) (hd : l.Pairwise (fun a b => b < a)) (hmem : ∀ i ∈ l, i < n) (hll : l.length ≤ n) (h : SlV w a n cap E) (hr : SlL w ra n rc (restN E) (restV E)) (hM : BlAt w bm n M) (hl : SlI w la l.length lc (lX l)) :
    Calls Tryz.prog 24 #[.agg #[.slice a n cap, .map (some m), .slice ra n rc], .slice (some ⟨bm, 0, none⟩) n n, .slice la l.length lc] w (MoIPost w E n l M) := by
  have h300 := room_300 hroom
  obtain ⟨wb, hwb⟩ : ∃ wb, wb = w.alloc (.cells #[.slice a n cap, .map (some m), .slice ra n rc] 48) := ⟨_, rfl⟩
  have hb0 : Below w.heap.size w wb := by rw [hwb]; exact (Below.refl _ _).alloc (Nat.le_refl _) _
  have hs0 : wb.heap.size = w.heap.size + 1 := by rw [hwb]; simp
  have hbx : Hid (∀ wx, Below (w.heap.size + 1) wb wx → ∀ o, wx.cell? ⟨w.heap.size, o, none⟩ = (#[.slice a n cap, .map (some m), .slice ra n rc] : Array Value)[o]?) := fun wx hx => by subst hwb; exact box_cells hx
  have hev : Hid (∀ b off, a = some ⟨b, off, none⟩ → 0 < n → b < w.heap.size + 1) := fun b off e hn => by
    rcases h.cells with h0 | ⟨b', off', e', hb', _⟩
    · omega
    · rw [e] at e'; injection e' with e'; injection e' with e1 _; omega
  have Hroom : Hid (_) := hroom
  have Hd : Hid (_) := hd
  have Hmem : Hid (∀ i ∈ l, i < n) := hmem
  clear hroom hd hmem
  go_enter Tryz.func24, Tryz.ntmps24
  go_wp2_with fail
  rw [← hwb]
  refine (plsI_sl _ h300 (hM.below hb0)).mono ?_
  rintro e w1 ⟨v, rfl, ho1, hb1⟩
  rw [hs0] at ho1 hb1
  have hw1 := hb0.trans (hb1.mono (by omega))
  have hs1 := hb1.size
  obtain ⟨oa, oc, rfl, _⟩ := ho1.sl
  have hbx1 := hbx.out _ hb1
  have HD : Hid (∀ W, Below w1.heap.size w1 W → Calls Tryz.prog 43 #[.agg #[.slice a n cap, .map (some m), .slice ra n rc], .slice la l.length lc] W fun e w' =>
      ∃ b, e = .returned (.slice (some ⟨b, 0, none⟩) n n) ∧ W.heap.size ≤ b ∧ InAt w' b n (fun i => (dp E n l (i : Int) : Int)) ∧ Below W.heap.size W w') := fun W hW => depI_sl W Hroom.out Hd.out Hmem.out hll ((h.below hw1).below hW) ((hr.below hw1).below hW) ((hl.below hw1).below hW)
  have HS : Hid (∀ (w2 w3 W : World) (db bg bw : Nat), Below w1.heap.size w1 w2 → InAt w2 db n (fun i => (dp E n l (i : Int) : Int)) → w1.heap.size ≤ db → Below w2.heap.size w2 w3 → w2.heap.size ≤ bg → w2.heap.size ≤ bw → w3.cell? ⟨bg, 0, none⟩ = some (.slice a n cap) → w3.cell? ⟨bw, 0, none⟩ = some (.slice (some ⟨db, 0, none⟩) n n) → Below w3.heap.size w3 W →
      Calls Tryz.prog 41 #[.slice oa (plsL M n).length oc, .func (.func 56) #[] #[.pointer (some ⟨bg, 0, none⟩), .pointer (some ⟨bw, 0, none⟩)]] W fun e w4 => e = .returned (.tuple #[]) ∧ SoFin wb (w.heap.size + 1) (.slice oa (plsL M n).length oc) (plsL M n) E (fun p : Nat => dp E n l (p : Int)) w4) := fun w2 w3 W db bg bw q1 q2 q3 q4 q5 q6 q7 q8 q9 =>
    so_arm (D := fun p : Nat => dp E n l (p : Int)) Hroom.out (plsL_lt M n) (fun i hi => ((plsL_mem M i n).1 hi).1) (by have := plsL_len M n; omega) hb1 (by omega) (h.below hw1) hev.out ho1 q1 q2 q3 q4 q5 q6 q7 q8 q9
  have HF : Hid (∀ w4, SoFin wb (w.heap.size + 1) (.slice oa (plsL M n).length oc) (plsL M n) E (fun p : Nat => dp E n l (p : Int)) w4 → MoIPost w E n l M (.returned (.slice oa (plsL M n).length oc)) w4) := fun w4 ⟨l', q1, q2, q3, q4⟩ => ⟨_, l', rfl, q1.monoM (by omega), q2, q3, hb0.trans (q4.mono (by omega))⟩
  have hso : Hid (∀ W, Below w1.heap.size w1 W → ∀ o, W.cell? ⟨w.heap.size, o, none⟩ = (#[.slice a n cap, .map (some m), .slice ra n rc] : Array Value)[o]?) := fun W hW => hbx.out _ (hb1.trans (hW.mono (by omega)))
  generalize (plsL M n).length = oL at *
  clear hbx ho1 hb0 hb1 hw1 hM
  go_wp2_with fail
  go_region_with (first
    | (go_at_call 43; refine (HD.out _ (by first | exact Below.refl _ _ | exact (Below.refl _ _).drew | exact (Below.refl _ _).drew.drew | exact (Below.refl _ _).drew.drew.drew | exact (Below.refl _ _).drew.drew.drew.drew)).mono ?_; rintro e w2 ⟨db, rfl, hdb, hin2, hb2⟩; have h12 : Below w1.heap.size w1 w2 := Below.trans (by first | exact Below.refl w1.heap.size w1 | exact (Below.refl w1.heap.size w1).drew | exact (Below.refl w1.heap.size w1).drew.drew | exact (Below.refl w1.heap.size w1).drew.drew.drew) hb2; have hbx2 := hso.out _ h12)
    | (go_at_call 42; refine (gf_any _ _ _ _ _ _ _ _ _ _ _).mono ?_; rintro e w3 ⟨bg, bw, rfl, hbg, hbw, hc1, hc2, hb3⟩; have h23 : Below w2.heap.size w2 w3 := Below.trans (by first | exact Below.refl w2.heap.size w2 | exact (Below.refl w2.heap.size w2).drew | exact (Below.refl w2.heap.size w2).drew.drew | exact (Below.refl w2.heap.size w2).drew.drew.drew) hb3)
    | (go_at_call 41; refine (HS.out w2 w3 _ db bg bw h12 hin2 hdb h23 hbg hbw hc1 hc2 (by first | exact Below.refl _ _ | exact (Below.refl _ _).drew | exact (Below.refl _ _).drew.drew | exact (Below.refl _ _).drew.drew.drew)).mono ?_; rintro e w4 ⟨rfl, hfin⟩))
  all_goals
    go_wp2
    go_ret
    exact HF.out _ hfin
end Go.Proofs.YtdapefcnmhbgkaaGreat
