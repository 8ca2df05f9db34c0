import Derived.Test.YtgocjlpbokhoeaaKpWM
import Derived.Test.YtgocjlpbokhoeaaPtLM
import Derived.Deep.AppendLies
namespace Go.Proofs.Ytgocjlpbokhoeaa
open Go.RowKit
theorem encL_cons (y : Ent) (r : List Ent) : encL (y :: r) = .string y.ty :: .string y.key :: .string y.id :: encL r := by simp [encL, encE]
theorem encL_set0 (l : List Ent) (k : Nat) (hk : k < l.length) (x : ByteArray) : (encL l).set (k * 3) (.string x) = encL (l.set k ⟨x, (eAt l k).key, (eAt l k).id⟩) := by
  induction l generalizing k with
  | nil => exact absurd hk (Nat.not_lt_zero _)
  | cons y l ih =>
    cases k with
    | zero => rw [List.set_cons_zero, encL_cons, encL_cons]; rfl
    | succ k =>
      have h1 : eAt (y :: l) (k + 1) = eAt l k := rfl
      rw [List.set_cons_succ, encL_cons, encL_cons, h1, show (k + 1) * 3 = k * 3 + 1 + 1 + 1 by omega, List.set_cons_succ, List.set_cons_succ, List.set_cons_succ, ih k (by simpa using hk)]
theorem encL_set2 (l : List Ent) (k : Nat) (hk : k < l.length) (x : ByteArray) : (encL l).set (k * 3 + 2) (.string x) = encL (l.set k ⟨(eAt l k).ty, (eAt l k).key, x⟩) := by
  induction l generalizing k with
  | nil => exact absurd hk (Nat.not_lt_zero _)
  | cons y l ih =>
    cases k with
    | zero => rw [List.set_cons_zero, encL_cons, encL_cons]; rfl
    | succ k =>
      have h1 : eAt (y :: l) (k + 1) = eAt l k := rfl
      rw [List.set_cons_succ, encL_cons, encL_cons, h1, show (k + 1) * 3 + 2 = k * 3 + 2 + 1 + 1 + 1 by omega, List.set_cons_succ, List.set_cons_succ, List.set_cons_succ, ih k (by simpa using hk)]
theorem OwnE.put0 {w : World} {base g n cap k : Nat} {l : List Ent} (h : OwnE w base (.slice (some ⟨g, 0, none⟩) n cap) l) (hn : n = l.length) (hk : k < l.length) (x : ByteArray) : OwnE (w.setCell ⟨g, k * 3, none⟩ (.string x)) base (.slice (some ⟨g, 0, none⟩) n cap) (l.set k ⟨x, (eAt l k).key, (eAt l k).id⟩) := by
  subst hn
  have := (World.ownsRow.stored h (k * 3) (.string x)).1
  rw [encL_set0 l k hk] at this
  unfold OwnE
  rw [List.length_set]
  exact this
theorem OwnE.put2 {w : World} {base g n cap k : Nat} {l : List Ent} (h : OwnE w base (.slice (some ⟨g, 0, none⟩) n cap) l) (hn : n = l.length) (hk : k < l.length) (x : ByteArray) : OwnE (w.setCell ⟨g, k * 3 + 2, none⟩ (.string x)) base (.slice (some ⟨g, 0, none⟩) n cap) (l.set k ⟨(eAt l k).ty, (eAt l k).key, x⟩) := by
  subst hn
  have := (World.ownsRow.stored h (k * 3 + 2) (.string x)).1
  rw [encL_set2 l k hk] at this
  unfold OwnE
  rw [List.length_set]
  exact this
def PvB (p : Nat) (v : Value) (b : Nat) : Prop := b = p ∨ v.ownBlock = some b
def SqPo (p base : Nat) (v : Value) (w : World) (bs : Nat → Nat) (m q : Nat) (l : List Ent) (e : Ending) (w' : World) : Prop :=
  ∃ a cap, e = .returned (.slice a l.length cap) ∧ OwnE w' base (.slice a l.length cap) l ∧ (∀ b, (Value.slice a l.length cap).ownBlock = some b → v.ownBlock = some b ∨ w.heap.size ≤ b) ∧ RdF w' p bs m q ∧ Kp (PvB p v) w w'
theorem RdF.kp {P : Nat → Prop} {w w' : World} {p : Nat} {bs : Nat → Nat} {m q : Nat} (h : RdF w p bs m q) (hk : Kp P w w') (hP : ∀ b, b ≤ p → ¬ P b) : RdF w' p bs m q := by
  obtain ⟨hlt, h1, h2, h3, ⟨a, cap, c0, c1, hB⟩, hf⟩ := h
  refine ⟨Nat.lt_of_lt_of_le hlt hk.size, h1, h2, h3, ⟨a, cap, (hk.cell (p := ⟨p, 0, none⟩) hlt (hP p (Nat.le_refl _))).trans c0, (hk.cell (p := ⟨p, 1, none⟩) hlt (hP p (Nat.le_refl _))).trans c1, ?_⟩, (hk.frozen (p := ⟨p, 1, none⟩) hlt (hP p (Nat.le_refl _))).trans hf⟩
  exact hB.imp id fun ⟨b, off, e, hne, hx⟩ => ⟨b, off, e, hne, fun i hi => (hk.cell (p := ⟨b, off + i, none⟩) (Nat.lt_trans hne hlt) (hP b (Nat.le_of_lt hne))).trans (hx i hi)⟩
theorem Kp.ofG {w w' : World} {p : Nat} {v : Value} (h : w.grownBy w' (some p)) : Kp (PvB p v) w w' := ⟨h.os, h.tape, h.output, h.size, fun k hk hP => h.block k hk (fun e => hP (Or.inl (by injection e)))⟩
theorem DwF.kp {p : Nat} {w w1 w2 : World} {bs : Nat → Nat} {m q q' : Nat} {v : Value} (h : DwF p w w1 bs m q) (hr : RdF w2 p bs m q') (hk : Kp (PvB p v) w1 w2) (hv : ∀ b, v.ownBlock = some b → w.heap.size ≤ b) : DwF p w w2 bs m q' := by
  refine ⟨hr, hk.os.trans h.2.os, hk.tape.trans h.2.tape, hk.output.trans h.2.output, Nat.le_trans h.2.size hk.size, fun k hk' hne => ?_⟩
  refine (hk.block k (Nat.lt_of_lt_of_le hk' h.2.size) (fun hP => ?_)).trans (h.2.block k hk' hne)
  rcases hP with rfl | hP
  · exact hne rfl
  · have := hv k hP; omega
theorem kp_own (w : World) (g n c o : Nat) (x : Value) : Kp (fun b => (Value.slice (some ⟨g, 0, none⟩) n c).ownBlock = some b) w (w.setCell ⟨g, o, none⟩ x) := (Kp.refl _ _).setCell (p := ⟨g, o, none⟩) (show some g = some g from rfl) x
theorem sp_close {p base : Nat} {v v2 : Value} {w w1 w2 : World} {bs : Nat → Nat} {m q : Nat} {l : List Ent} (hd : DwF p w w1 bs m q) (hv : ∀ b, v.ownBlock = some b → p < b) (hk : Kp (fun b => v.ownBlock = some b) w1 w2) (ho : OwnE w2 base v2 l) (hok : AllOk l) (hbk : ∀ b, v2.ownBlock = some b → v.ownBlock = some b ∨ w.heap.size ≤ b) : SqPo p base v w bs m q l (.returned v2) w2 := by
  obtain ⟨a2, c2, rfl, _⟩ := ho.sl hok.at
  exact ⟨a2, c2, rfl, ho, hbk, hd.1.kp hk (fun b h1 h2 => by have := hv b h2; omega), (Kp.ofG hd.2).trans (hk.mono fun _ _ hb => Or.inr hb)⟩
set_option maxRecDepth 100000 in
set_option maxHeartbeats 4000000 in
theorem spoilL (p base : Nat) {bs : Nat → Nat} {m q : Nat} {a : Option Addr} {cap : Nat} {l : List Ent} (w : World) (h : RdF w p bs m q) (hp : p < base) (hb : base ≤ w.heap.size) (ho : OwnE w base (.slice a l.length cap) l) (hok : AllOk l) (hl : l.length ≤ 1000) :
    Calls Try.prog 39 #[.pointer (some ⟨p, 0, none⟩), .slice a l.length cap] w (SqPo p base (.slice a l.length cap) w bs m (nxQ m q) (spL l (nxB bs m q))) := by
  obtain ⟨i0, hi, hz0, hz1, hz2⟩ := info_parts Try.infoEntry
  have hk256 := h.nx
  go_enter Try.func39, Try.ntmps39
  go_wp2_with fail
  refine (nextF p _ h).mono ?_
  rintro e w1 ⟨rfl, hd1⟩
  have ho1 := ho.dwf hd1 hp
  have hs1 : base ≤ w1.heap.size := Nat.le_trans hb hd1.size
  have hv1 : ∀ b, (Value.slice a l.length cap).ownBlock = some b → p < b ∧ b < w1.heap.size := fun b hb' => by
    have := World.ownsRow.lt ho1 b hb'
    omega
  have HV : Hid (∀ b, (Value.slice a l.length cap).ownBlock = some b → b < w.heap.size) := fun b hb' => (World.ownsRow.lt ho b hb').2
  have HD : Hid (DwF p w w1 bs m (nxQ m q)) := hd1
  have HK : Hid (Kp (PvB p (.slice a l.length cap)) w w1) := Kp.ofG hd1.2
  have hok2 : AllOk (spL l (nxB bs m q)) := spL_ok _ hok
  have HO : Hid (AllOk (spL l (nxB bs m q))) := hok2
  clear hok2 hd1 ho
  generalize nxB bs m q = k at *
  generalize nxQ m q = q1 at *
  by_cases h0 : l.length = 0
  · have HE : Hid (spL l k = l ++ [⟨⟨#[120]⟩, ⟨#[]⟩, ⟨#[]⟩⟩]) := by unfold Hid spL; rw [if_pos h0]
    have e0 : l = [] := List.eq_nil_of_length_eq_zero h0
    subst e0
    have ho0 : w1.ownsRow base 38 3 (.slice a 0 cap) 0 [] := ho1
    have hm3 : ∀ o, base ≤ (w1.alloc o).heap.size := fun o => by simp; omega
    have HF : Hid (∀ (gg cc : Nat) (w2 : World) (o : Obj), w2.ownsRow base 38 3 (.slice (some ⟨gg, 0, none⟩) (0 + 1) cc) (0 + 1) ([] ++ encE ⟨⟨#[120]⟩, ⟨#[]⟩, ⟨#[]⟩⟩) → (w1.alloc o).grownBy w2 (Value.slice a 0 cap).ownBlock → ((Value.slice a 0 cap).ownBlock = some gg ∨ gg = w1.heap.size + 1) → SqPo p base (.slice a 0 cap) w bs m q1 (spL [] k) (.returned (.slice (some ⟨gg, 0, none⟩) (0 + 1) cc)) w2) := fun gg cc w2 o h1 h2 h3 =>
      sp_close HD.out (fun b hb => (hv1 b hb).1) (((Kp.refl _ _).alloc o).grown h2 fun b hb _ => hb) (by rw [HE.out]; exact OwnE.snoc (l := []) h1 rfl) HO.out (fun b hb => by have e : gg = b := Option.some.inj hb; subst e; exact h3.imp id fun e => by have := HD.out.size; omega)
    clear ho1 h0
    go_wp2_with (at_builtin; refine wpList_append_lies _ rfl _ _ 26 rfl base 38 i0 (.agg #[.string ByteArray.empty, .string ByteArray.empty, .string ByteArray.empty]) 3 48 Try.underlying26 hi hz0 hz1 hz2 rfl (by decide) (.slice a 0 cap) 0 [] rfl (ho0.alloc _) ⟨w1.heap.size, 0, none⟩ 1 1 (encE ⟨⟨#[120]⟩, ⟨#[]⟩, ⟨#[]⟩⟩) rfl rfl (encE_cells _ _ _) (encE_one _) (by decide) (by decide) (by decide) (hm3 _) (w1.heap.size + 1) (by simp) ?_; intro gg cc w2 hown2 hgrow2 hat2 _)
    have HZ := HF.out gg cc w2 _ hown2 hgrow2 hat2
    clear hown2 hgrow2 HF hat2
    go_wp2
    go_ret
    exact HZ
  · obtain ⟨n, hn⟩ : ∃ n, n = l.length := ⟨_, rfl⟩
    have hi3 : k / 3 % l.length < l.length := Nat.mod_lt _ (by omega)
    obtain ⟨i, hi'⟩ : ∃ i, i = k / 3 % l.length := ⟨_, rfl⟩
    rw [← hi'] at hi3
    have HE : Hid (spL l k = if k % 3 = 0 then l.set i ⟨(eAt l i).ty, (eAt l i).key, ⟨#[]⟩⟩ else if k % 3 = 1 then l ++ [eAt l i] else l.set i ⟨⟨#[122, 122]⟩, (eAt l i).key, (eAt l i).id⟩) := by unfold Hid spL; rw [if_neg h0, ← hi']
    obtain ⟨g, rfl, hlt, hcells, hfz⟩ : ∃ g, a = some ⟨g, 0, none⟩ ∧ g < w1.heap.size ∧ ((w1.cell? ⟨g, i * 3, none⟩ = some (.string (eAt l i).ty)) ∧ (w1.cell? ⟨g, i * 3 + 1, none⟩ = some (.string (eAt l i).key)) ∧ (w1.cell? ⟨g, i * 3 + 2, none⟩ = some (.string (eAt l i).id))) ∧ ∀ o, w1.frozen? ⟨g, o, none⟩ = false := by
      rcases row_cells ho1 with ⟨_, h1⟩ | ⟨g, cap', hv, hg, hlt, _, _, hx, hf⟩
      · exact absurd h1 h0
      · refine ⟨g, by injection hv, hlt, ?_, hf⟩
        have e3 := encL_get l i hi3
        have hr : ∀ r, r < 3 → w1.cell? ⟨g, i * 3 + r, none⟩ = (encL l)[i * 3 + r]? := fun r hr => by
          have := hx (i * 3 + r) (by omega)
          rw [Nat.zero_add] at this
          exact this
        exact ⟨(hr 0 (by decide)).trans e3.1, (hr 1 (by decide)).trans e3.2.1, (hr 2 (by decide)).trans e3.2.2⟩
    obtain ⟨x0, x1, x2⟩ := hcells
    have f0 := hfz (i * 3)
    have f2 := hfz (i * 3 + 2)
    have hik : ((k / 3 % l.length : Nat) : Int) = (i : Int) := by rw [hi']
    have hqi : (k : Int) / 3 % (l.length : Int) = (i : Int) := by rw [← hik]; simp
    have hne : ¬ ((l.length : Nat) : Int) = 0 := by omega
    have hlt3 : (i : Int) < (l.length : Int) := by omega
    clear hfz hi' hik
    have hm1 : l.length + 1 ≤ maxLen := by unfold maxLen; omega
    have hm2 : (l.length + 1) * 48 ≤ 140737488355328 := by omega
    have hm3 : ∀ o, base ≤ (w1.alloc o).heap.size := fun o => by simp; omega
    by_cases hk0 : k % 3 = 0
    · have HP : Hid (SqPo p base (.slice (some ⟨g, 0, none⟩) l.length cap) w bs m q1 (spL l k) (.returned (.slice (some ⟨g, 0, none⟩) l.length cap)) (w1.setCell ⟨g, i * 3 + 2, none⟩ (.string ⟨#[]⟩))) := by
        refine sp_close HD.out (fun b hb => (hv1 b hb).1) (kp_own _ _ _ _ _ _) ?_ HO.out (fun b hb => Or.inl hb)
        rw [HE.out, if_pos hk0]
        exact ho1.put2 rfl hi3 _
      have hkk : (k : Int) % 3 = 0 := by omega
      clear HE HK HV ho1 hv1 h
      go_wp2
      go_ret
      exact HP.out
    · have hkk : ¬ (k : Int) % 3 = 0 := by omega
      by_cases hk1 : k % 3 = 1
      · have hkk1 : (k : Int) % 3 = 1 := by omega
        have HF : Hid (∀ (gg cc : Nat) (w2 : World) (o : Obj), w2.ownsRow base 38 3 (.slice (some ⟨gg, 0, none⟩) (l.length + 1) cc) (l.length + 1) (encL l ++ encE (eAt l i)) → (w1.alloc o).grownBy w2 (Value.slice (some ⟨g, 0, none⟩) l.length cap).ownBlock → ((Value.slice (some ⟨g, 0, none⟩) l.length cap).ownBlock = some gg ∨ gg = w1.heap.size + 1) → SqPo p base (.slice (some ⟨g, 0, none⟩) l.length cap) w bs m q1 (spL l k) (.returned (.slice (some ⟨gg, 0, none⟩) (l.length + 1) cc)) w2) := fun gg cc w2 o h1 h2 h3 =>
          sp_close HD.out (fun b hb => (hv1 b hb).1) (((Kp.refl _ _).alloc o).grown h2 fun b hb _ => hb) (by rw [HE.out, if_neg hk0, if_pos hk1]; exact OwnE.snoc h1 rfl) HO.out (fun b hb => by have e : gg = b := Option.some.inj hb; subst e; exact h3.imp id fun e => by have := HD.out.size; omega)
        clear HE HK HV hv1 h
        go_wp2_with (at_builtin; refine wpList_append_lies _ rfl _ _ 26 rfl base 38 i0 (.agg #[.string ByteArray.empty, .string ByteArray.empty, .string ByteArray.empty]) 3 48 Try.underlying26 hi hz0 hz1 hz2 rfl (by decide) _ _ _ rfl (ho1.alloc _) ⟨w1.heap.size, 0, none⟩ 1 1 (encE (eAt l i)) rfl rfl (encE_cells _ _ _) (encE_one _) (by decide) hm1 hm2 (hm3 _) (w1.heap.size + 1) (by simp) ?_; intro gg cc w2 hown2 hgrow2 hat2 _)
        have HZ := HF.out gg cc w2 _ hown2 hgrow2 hat2
        clear hown2 hgrow2 HF hat2
        go_wp2
        go_ret
        exact HZ
      · have hkk1 : ¬ (k : Int) % 3 = 1 := by omega
        have HP : Hid (SqPo p base (.slice (some ⟨g, 0, none⟩) l.length cap) w bs m q1 (spL l k) (.returned (.slice (some ⟨g, 0, none⟩) l.length cap)) (w1.setCell ⟨g, i * 3, none⟩ (.string ⟨#[122, 122]⟩))) := by
          refine sp_close HD.out (fun b hb => (hv1 b hb).1) (kp_own _ _ _ _ _ _) ?_ HO.out (fun b hb => Or.inl hb)
          rw [HE.out, if_neg hk0, if_neg hk1]
          exact ho1.put0 rfl hi3 _
        clear HE HK HV ho1 hv1 h
        go_wp2
        go_ret
        exact HP.out
def LqPo (p : Nat) (w : World) (bs : Nat → Nat) (m : Nat) (l : List Ent) (q : Nat) (e : Ending) (w' : World) : Prop := ∃ a cap, e = .returned (.slice a l.length cap) ∧ OwnE w' w.heap.size (.slice a l.length cap) l ∧ AllOk l ∧ DwF p w w' bs m q
set_option maxRecDepth 100000 in
set_option maxHeartbeats 4000000 in
theorem drawAnyL (p : Nat) {bs : Nat → Nat} {m q : Nat} (w : World) (h : RdF w p bs m q) : Calls Try.prog 15 #[.pointer (some ⟨p, 0, none⟩)] w (LqPo p w bs m (daL bs m q) (daLq bs m q)) := by
  have hp := h.lt
  go_enter Try.func15, Try.ntmps15
  go_wp2_with fail
  refine (nextF p _ h).mono ?_
  rintro e w1 ⟨rfl, hd1⟩
  have HX : Hid (daL bs m q = (if nxB bs m q % 6 = 5 then spL (drL bs m (nxQ m q)) (nxB bs m (drLq bs m (nxQ m q))) else drL bs m (nxQ m q)) ∧ daLq bs m q = if nxB bs m q % 6 = 5 then nxQ m (drLq bs m (nxQ m q)) else drLq bs m (nxQ m q)) := ⟨rfl, rfl⟩
  generalize nxB bs m q = k at *
  go_wp2_with fail
  refine (drawL p _ hd1.1).mono ?_
  rintro e w2 ⟨a2, c2, rfl, ho2, hok2, hl2, hd2⟩
  have HD : Hid (DwF p w w2 bs m (drLq bs m (nxQ m q))) := hd1.trans hd2
  have hsz : w.heap.size ≤ w1.heap.size := hd1.size
  have ho3 : OwnE w2 w.heap.size _ _ := ho2.base_le hsz
  have hs2 : w1.heap.size ≤ w2.heap.size := hd2.size
  have hrd := hd2.1
  clear hd1 hd2 ho2
  generalize drLq bs m (nxQ m q) = q2 at *
  generalize drL bs m (nxQ m q) = l at *
  by_cases hk : k % 6 = 5
  · have hkk : (k : Int) % 6 = 5 := by omega
    rw [if_pos hk, if_pos hk] at HX
    go_wp2_with fail
    refine (spoilL p w.heap.size _ hrd hp (by omega) ho3 hok2 (by omega)).mono ?_
    rintro e w3 ⟨a3, c3, rfl, ho4, -, hr4, hk4⟩
    have HP : Hid (LqPo p w bs m (daL bs m q) (daLq bs m q) (.returned (.slice a3 (spL l (nxB bs m q2)).length c3)) w3) := by
      rw [HX.out.1, HX.out.2]
      exact ⟨a3, c3, rfl, ho4, spL_ok _ hok2, HD.out.kp hr4 hk4 (fun b hb => (World.ownsRow.lt ho3 b hb).1)⟩
    clear ho4 hr4 hk4 HX HD ho3
    go_wp2
    go_ret
    exact HP.out
  · have hkk : ¬ (k : Int) % 6 = 5 := by omega
    rw [if_neg hk, if_neg hk] at HX
    have HP : Hid (LqPo p w bs m (daL bs m q) (daLq bs m q) (.returned (.slice a2 l.length c2)) w2) := by
      rw [HX.out.1, HX.out.2]
      exact ⟨a2, c2, rfl, ho3, hok2, HD.out⟩
    clear HX HD ho3
    go_wp2
    go_ret
    exact HP.out
end Go.Proofs.Ytgocjlpbokhoeaa
