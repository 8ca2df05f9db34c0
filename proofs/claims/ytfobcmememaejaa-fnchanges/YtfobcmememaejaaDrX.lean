/-
  Drawn states that are spoilt.
-/
import Derived.Test.YtfobcmememaejaaDrL
namespace Go.Proofs.Ytfobcmememaejaa
open Go.RowKit

/-- a list is drawn. -/
def SpPost (p N : Nat) (w0 : World) (e : Ending) (w' : World) : Prop := ∃ a cap l, e = .returned (.slice a (List.length l) cap) ∧ SlE w' a cap l ∧ ApS (some p) a l ∧ List.length l ≤ N ∧ Drw p w0 w'

/-- n entries at (b, off), of any texts. -/
theorem sl_some {w : World} {b off n cap : Nat} (hb : b < w.heap.size) (hle : n ≤ cap) (hm : cap ≤ maxLen) (h : ∀ i, i < n → ∃ en : Ent, (en.ty.size ≤ maxLen ∧ en.key.size ≤ maxLen ∧ en.id.size ≤ maxLen) ∧ w.cell? ⟨b, off + i * 3, none⟩ = some (.string en.ty) ∧ w.cell? ⟨b, off + i * 3 + 1, none⟩ = some (.string en.key) ∧ w.cell? ⟨b, off + i * 3 + 2, none⟩ = some (.string en.id)) :
    ∃ l : List Ent, l.length = n ∧ SlE w (some ⟨b, off, none⟩) cap l := by
  obtain ⟨F, hF⟩ : ∃ F : Nat → Ent, ∀ i, i < n → ((F i).ty.size ≤ maxLen ∧ (F i).key.size ≤ maxLen ∧ (F i).id.size ≤ maxLen) ∧ w.cell? ⟨b, off + i * 3, none⟩ = some (.string (F i).ty) ∧ w.cell? ⟨b, off + i * 3 + 1, none⟩ = some (.string (F i).key) ∧ w.cell? ⟨b, off + i * 3 + 2, none⟩ = some (.string (F i).id) :=
    ⟨fun i => if h' : i < n then (h i h').choose else Ent.none, fun i hi => by simp only [dif_pos hi]; exact (h i hi).choose_spec⟩
  have hlen : ((List.range n).map F).length = n := by simp
  have hat : ∀ i, i < n → eAt ((List.range n).map F) i = F i := fun i hi => by rw [eAt_get _ _ (by rw [hlen]; exact hi)]; simp
  refine ⟨(List.range n).map F, hlen, by rw [hlen]; exact hle, hm, fun i hi => ?_, Or.inr ⟨b, off, rfl, hb, fun i hi => ?_, fun i hi => ?_, fun i hi => ?_⟩⟩
  all_goals rw [hlen] at hi; rw [hat i hi]
  · exact (hF i hi).1
  · exact (hF i hi).2.1
  · exact (hF i hi).2.2.1
  · exact (hF i hi).2.2.2
/-- a text written into a row of entries. -/
theorem sl_put {w : World} {b off cap j : Nat} {l : List Ent} (h : SlE w (some ⟨b, off, none⟩) cap l) (hl : l ≠ []) (hj : j < l.length * 3) {s : ByteArray} (hs : s.size ≤ maxLen) (hv : ∃ v, w.cell? ⟨b, off + j, none⟩ = some v) :
    ∃ l' : List Ent, l'.length = l.length ∧ SlE (w.setCell ⟨b, off + j, none⟩ (.string s)) (some ⟨b, off, none⟩) cap l' := by
  rcases h.cells with h0 | ⟨b', off', e, hb, c1, c2, c3⟩
  · exact absurd h0 hl
  · injection e with e; injection e with e1 e2 _
    subst e1 e2
    have hc : ∀ q (x : ByteArray), x.size ≤ maxLen → w.cell? ⟨b, off + q, none⟩ = some (.string x) → ∃ y : ByteArray, y.size ≤ maxLen ∧ (w.setCell ⟨b, off + j, none⟩ (.string s)).cell? ⟨b, off + q, none⟩ = some (.string y) := fun q x hx hq => by
      by_cases e : q = j
      · subst e; exact ⟨s, hs, set_same hv⟩
      · exact ⟨x, hx, by rw [set_far (by omega)]; exact hq⟩
    refine sl_some (by simpa [World.setCell] using hb) h.le h.max fun i hi => ?_
    have hz := h.size i hi
    obtain ⟨y1, z1, d1⟩ := hc (i * 3) _ hz.1 (c1 i hi)
    obtain ⟨y2, z2, d2⟩ := hc (i * 3 + 1) _ hz.2.1 (c2 i hi)
    obtain ⟨y3, z3, d3⟩ := hc (i * 3 + 2) _ hz.2.2 (c3 i hi)
    exact ⟨⟨y1, y2, y3⟩, ⟨z1, z2, z3⟩, d1, d2, d3⟩
theorem OwnE.aps {w : World} {base p : Nat} {a : Option Addr} {cap : Nat} {l : List Ent} (h : OwnE w base (.slice a l.length cap) l) (hp : p < base) : ApS (some p) a l := by
  rcases h.wr0 rfl with h0 | ⟨b, off, e, hlo, _⟩
  · exact Or.inl (List.eq_nil_of_length_eq_zero (by omega))
  · exact Or.inr ⟨b, off, e, fun e' => by injection e' with e'; omega⟩
set_option maxRecDepth 100000 in
set_option maxHeartbeats 2000000 in
theorem spoil_any (p : Nat) (w0 w : World) {a : Option Addr} {cap : Nat} {l : List Ent} (hp : p < w0.heap.size) (hd : Drw p w0 w) (ho : OwnE w w0.heap.size (.slice a l.length cap) l) (hok : AllOk l) (hl : l.length ≤ 7) :
    Calls Try.prog 42 #[.pointer (some ⟨p, 0, none⟩), .slice a l.length cap] w (SpPost p 8 w0) := by
  obtain ⟨i0, hi, hz0, hz1, hz2⟩ := info_parts Try.infoEntry
  have Hok : Hid (AllOk l) := hok
  go_enter Try.func42, Try.ntmps42
  go_wp2_with fail
  refine (next_any p _ hd.1).mono ?_
  rintro e w1 ⟨x, hx, rfl, hd1⟩
  have hdw := hd.trans hd1
  have ho1 := ho.drw hd1 hp
  clear hd1 hd ho
  by_cases h0 : l.length = 0
  · obtain rfl := List.eq_nil_of_length_eq_zero h0
    have hm1 : (0 : Nat) + 1 ≤ maxLen := by decide
    have hm2 : (0 + 1) * 48 ≤ 140737488355328 := by decide
    have hm3 : ∀ o, w0.heap.size ≤ (w1.alloc o).heap.size := fun o => by have := hdw.size; simp; omega
    go_wp2_with (at_builtin; refine wpList_append_own _ rfl _ _ 23 rfl w0.heap.size 32 i0 (.agg #[.string ByteArray.empty, .string ByteArray.empty, .string ByteArray.empty]) 3 48 Try.underlying23 hi hz0 hz1 hz2 rfl (by decide) _ _ _ rfl (ho1.alloc _) ⟨w1.heap.size, 0, none⟩ 1 1 (encE ⟨⟨#[120]⟩, ⟨#[]⟩, ⟨#[]⟩⟩) rfl rfl (encE_cells _ _ _) (encE_one _) hm1 hm2 (hm3 _) ?_; intro v2 w2 hown2 hgrow2 _)
    have hown3 : OwnE w2 w0.heap.size v2 ([] ++ [⟨⟨#[120]⟩, ⟨#[]⟩, ⟨#[]⟩⟩]) := OwnE.snoc hown2 rfl
    have hd2 : Drw p w0 w2 := (hdw.below ((Below.refl _ _).alloc (Nat.le_refl _) _)).grow hgrow2 (fun b hb => ho1.row b hb) hp
    have Hok2 : Hid (AllOk ([] ++ [(⟨⟨#[120]⟩, ⟨#[]⟩, ⟨#[]⟩⟩ : Ent)])) := fun y hy => by
      simp only [List.nil_append, List.mem_singleton] at hy
      subst hy
      exact ⟨by decide, by decide, by decide⟩
    obtain ⟨g, c, rfl, hsl⟩ := hown3.sl Hok2.out.at
    have Hfin : Hid (SpPost p 8 w0 (.returned (.slice g ([] ++ [(⟨⟨#[120]⟩, ⟨#[]⟩, ⟨#[]⟩⟩ : Ent)]).length c)) w2) := ⟨g, c, _, rfl, hsl, hown3.aps hp, by simp, hd2⟩
    clear hown2 hgrow2 hown3 hsl
    go_wp2
    go_ret
    exact Hfin.out
  · have hne : l ≠ [] := fun e => h0 (by rw [e]; rfl)
    obtain ⟨ga, gc, e1, hsl⟩ := ho1.sl Hok.out.at
    injection e1 with e2 _ e3
    subst e2 e3
    rcases ho1.wr0 rfl with h00 | ⟨g, off, rfl, hlo, hgl, hfree⟩
    · omega
    have hap := ho1.aps hp
    obtain ⟨i, hil, hi0, hi1, hi2⟩ : ∃ i : Nat, i < l.length ∧ (0 : Int) ≤ (x : Int) / 3 % (l.length : Int) ∧ (x : Int) / 3 % (l.length : Int) < (l.length : Int) ∧ ((x : Int) / 3 % (l.length : Int)).toNat = i := by
      have hpos : (0 : Int) < (l.length : Int) := by omega
      have q1 := Int.emod_nonneg ((x : Int) / 3) (by omega : (l.length : Int) ≠ 0)
      have q2 := Int.emod_lt_of_pos ((x : Int) / 3) hpos
      exact ⟨((x : Int) / 3 % (l.length : Int)).toNat, by omega, q1, q2, rfl⟩
    rcases hsl.cells with h00 | ⟨g', off', e1, hg', c1, c2, c3⟩
    · exact absurd h00 hne
    injection e1 with e1; injection e1 with e2 e3 _
    subst e2 e3
    have a1 := c1 i hil
    have a2 := c2 i hil
    have a3 := c3 i hil
    have f1 := (hfree (i * 3) (by omega)).2
    have f2 := (hfree (i * 3 + 2) (by omega)).2
    rw [← Nat.add_assoc] at f2
    have HF : Hid (∀ (j : Nat) (s : ByteArray), j < l.length * 3 → s.size ≤ maxLen → SpPost p 8 w0 (.returned (.slice (some ⟨g, off, none⟩) l.length cap)) (w1.setCell ⟨g, off + j, none⟩ (.string s))) := fun j s hj hs => by
      obtain ⟨l', hl', hsl'⟩ := sl_put hsl hne hj hs (hfree j hj).1
      refine ⟨some ⟨g, off, none⟩, cap, l', by rw [hl'], hsl', ?_, by omega, hdw.own hlo hp _ _⟩
      rcases hap with h00 | ⟨b, o, e, hn⟩
      · exact absurd h00 hne
      · exact Or.inr ⟨b, o, e, hn⟩
    have hx0 : (0 : Int) ≤ (x : Int) / 3 := by omega
    have hx3 : (x : Int) % 3 = 0 ∨ (x : Int) % 3 = 1 ∨ (x : Int) % 3 = 2 := by omega
    clear c1 c2 c3 hfree
    rcases hx3 with hx3 | hx3 | hx3
    · have Hz : Hid (_) := HF.out (i * 3 + 2) ⟨#[]⟩ (by omega) (by decide)
      clear HF
      rw [← Nat.add_assoc] at Hz
      go_wp2
      go_ret
      exact Hz.out
    · have hm1 : l.length + 1 ≤ maxLen := by unfold maxLen; omega
      have hm2 : (l.length + 1) * 48 ≤ 140737488355328 := by omega
      have hm3 : ∀ o, w0.heap.size ≤ (w1.alloc o).heap.size := fun o => by have := hdw.size; simp; omega
      clear HF
      go_wp2_with (at_builtin; refine wpList_append_own _ rfl _ _ 23 rfl w0.heap.size 32 i0 (.agg #[.string ByteArray.empty, .string ByteArray.empty, .string ByteArray.empty]) 3 48 Try.underlying23 hi hz0 hz1 hz2 rfl (by decide) _ _ _ rfl (ho1.alloc _) ⟨w1.heap.size, 0, none⟩ 1 1 (encE (eAt l i)) rfl rfl (encE_cells _ _ _) (encE_one _) hm1 hm2 (hm3 _) ?_; intro v2 w2 hown2 hgrow2 _)
      have hown3 : OwnE w2 w0.heap.size v2 (l ++ [eAt l i]) := OwnE.snoc hown2 rfl
      have hd2 : Drw p w0 w2 := (hdw.below ((Below.refl _ _).alloc (Nat.le_refl _) _)).grow hgrow2 (fun b hb => ho1.row b hb) hp
      have Hok2 : Hid (AllOk (l ++ [eAt l i])) := fun y hy => by
        rcases List.mem_append.1 hy with hy | hy
        · exact Hok.out y hy
        · exact Hok.out y (by rw [List.mem_singleton.1 hy]; exact eAt_mem l i hil)
      have hl2 : (l ++ [eAt l i]).length ≤ 8 := by simp; omega
      generalize l ++ [eAt l i] = l2 at *
      obtain ⟨g2, c2, rfl, hsl2⟩ := hown3.sl Hok2.out.at
      have Hfin : Hid (SpPost p 8 w0 (.returned (.slice g2 l2.length c2)) w2) := ⟨g2, c2, l2, rfl, hsl2, hown3.aps hp, hl2, hd2⟩
      clear hown2 hgrow2 hown3 hsl2 a1 a2 a3
      go_wp2
      go_ret
      exact Hfin.out
    · have Hz : Hid (_) := HF.out (i * 3) ⟨#[122, 122]⟩ (by omega) (by decide)
      clear HF
      go_wp2
      go_ret
      exact Hz.out

theorem LstPost.sp {p N M : Nat} {w w' : World} {e : Ending} (h : LstPost p N w e w') (hp : p < w.heap.size) (hN : N ≤ M) : SpPost p M w e w' := by
  obtain ⟨a, cap, l, rfl, ho, hok, hl, hd⟩ := h
  obtain ⟨a', cap', e1, hsl⟩ := ho.sl hok.at
  injection e1 with e2 _ e3
  subst e2 e3
  exact ⟨a, cap, l, rfl, hsl, ho.aps hp, by omega, hd⟩

set_option maxRecDepth 100000 in
set_option maxHeartbeats 1000000 in
theorem drawAny_any (hslot : SlotC) (p : Nat) (w : World) (h : Rdr w p) : Calls Try.prog 29 #[.pointer (some ⟨p, 0, none⟩)] w (SpPost p 8 w) := by
  have hp := h.lt
  have HS : Hid SlotC := hslot
  clear hslot
  go_enter Try.func29, Try.ntmps29
  go_wp2_with fail
  refine (next_any p _ h).mono ?_
  rintro e w1 ⟨x, hx, rfl, hd1⟩
  go_wp2_with fail
  refine (draw_any HS.out p _ hd1.1).mono ?_
  intro e w2 hL
  have hL2 : Hid (LstPost p 7 w1 e w2) := hL
  obtain ⟨a, cap, l, rfl, ho, hok, hl, hd2⟩ := hL
  have hp1 : p < w1.heap.size := hd1.1.lt
  have hsp : SpPost p 8 w1 (.returned (.slice a l.length cap)) w2 := hL2.out.sp hp1 (by decide)
  have Hsp : Hid (SpPost p 8 w (.returned (.slice a l.length cap)) w2) := by
    obtain ⟨a', cap', l', e1, q1, q2, q3, q4⟩ := hsp
    exact ⟨a', cap', l', e1, q1, q2, q3, hd1.trans q4⟩
  have Hspoil : Hid (Calls Try.prog 42 #[.pointer (some ⟨p, 0, none⟩), .slice a l.length cap] w2 (SpPost p 8 w)) := spoil_any p w w2 hp (hd1.trans hd2) (ho.base_le hd1.size) hok hl
  clear hsp hL2 ho hok hl hd2
  by_cases h6 : (x : Int) % 6 = 5
  · go_wp2_with fail
    refine (Hspoil.out).mono ?_
    intro e w3 h3
    have H3 : Hid (SpPost p 8 w e w3) := h3
    obtain ⟨a3, c3, l3, rfl, _⟩ := h3
    go_wp2
    go_ret
    exact H3.out
  · go_wp2
    go_ret
    exact Hsp.out
end Go.Proofs.Ytfobcmememaejaa
