/-
  spec's l2Full of one id.
-/
import Derived.Test.YtlopjfhdhkonbaaChS
import Derived.Test.YtlopjfhdhkonbaaL2s
import Derived.Test.YtlopjfhdhkonbaaCoP
import Derived.Maps.AppendAt
import Derived.Deep.AppendSrc
namespace Go.Proofs.Ytlopjfhdhkonbaa
open Go.RowKit

/-- what l2Full answers. -/
def FuPost (w : World) (P : ByteArray → Prop) (e : Ending) (w' : World) : Prop := ∃ v l, e = .returned v ∧ OwnL w' w.heap.size v l ∧ Srt l ∧ (∀ s, s ∈ l ↔ P s) ∧ Below w.heap.size w w'
theorem strL_one (l : List ByteArray) (u : Value) (h : u ∈ l.map Value.string) : u.oneCell' = true := by
  obtain ⟨x, _, rfl⟩ := List.mem_map.1 h
  rfl
theorem OwnL.src {w : World} {base g cap n : Nat} {l : List ByteArray} (h : OwnL w base (.slice (some ⟨g, 0, none⟩) n cap) l) (hn : n = l.length) (j : Nat) (u : Value) (hj : (l.map Value.string)[j]? = some u) : w.cell? ((⟨g, 0, none⟩ : Addr).add j) = some u := by
  have hlt : j < l.length := by
    have := (List.getElem?_eq_some_iff.1 hj).1
    simpa using this
  rw [Addr.add_lit, Nat.zero_add, h.cell hn hlt, ← hj, List.getElem?_map, getL_some hlt]
  rfl

set_option maxRecDepth 100000 in
set_option maxHeartbeats 4000000 in
theorem fullS_any {a : Option Addr} {n cap : Nat} {E : Nat → Ev} (ib io icap k : Nat) (w : World) (hroom : roomTo E n = true) (hk : k < n) (h : SlV w a n cap E) (hib : ib < w.heap.size) (hid : w.cell? ⟨ib, io, none⟩ = some (.string (E k).id)) (hic : 1 ≤ icap ∧ icap ≤ maxLen) (hsz : (E k).id.size ≤ maxLen) :
    Calls Try.prog 16 #[.agg #[.slice a n cap], .slice (some ⟨ib, io, none⟩) 1 icap] w (FuPost w (fun s => s = (E k).id ∨ Chn E n (fun _ => (E k).id) 1 s)) := by
  have h300 := room_300 hroom
  obtain ⟨i0, hi, hz0, hz1, hz2⟩ := info_parts Try.infoString
  obtain ⟨wa, hwa⟩ : ∃ wa, wa = w.alloc (.cells #[.slice a n cap] 34) := ⟨_, rfl⟩
  have hba : Below w.heap.size w wa := by rw [hwa]; exact (Below.refl _ _).alloc (Nat.le_refl _) _
  have hza : w.heap.size < wa.heap.size := by rw [hwa]; simp
  have hbA : Below wa.heap.size wa (wa.alloc (.cells #[] 9)) := (Below.refl _ _).alloc (Nat.le_refl _) _
  have hca : Hid (∀ W, Below wa.heap.size wa W → W.cell? ⟨w.heap.size, 0, none⟩ = some (.slice a n cap)) := fun W hW => (hW.cell (by exact hza)).trans (by rw [hwa]; exact World.cell?_alloc_at _ _ _ _ rfl)
  have hids : ∀ W, Below w.heap.size w W → SlS W (some ⟨ib, io, none⟩) 1 icap (fun _ => (E k).id) := fun W hW => ⟨hic.1, hic.2, fun _ _ => hsz, Or.inr ⟨ib, io, rfl, Nat.lt_of_lt_of_le hib hW.size, fun i hi => by
    have : i = 0 := by omega
    subst this
    exact (hW.cell (by exact hib)).trans hid⟩⟩
  have Hch : Hid (∀ W, Below w.heap.size w W → Calls Try.prog 35 #[.agg #[.slice a n cap], .slice (some ⟨ib, io, none⟩) 1 icap] W (ChPost W E n (fun _ => (E k).id) 1)) := fun W hW => l2Chain_sl W hroom (h.below hW) (hids W hW) (by omega) (fun i _ => by rw [posV_here hroom hk]; omega)
  have Hlen : Hid (∀ l, Srt l → (∀ s, s ∈ l ↔ Chn E n (fun _ => (E k).id) 1 s) → l.length ≤ 300 ∧ ∀ s ∈ l, s.size ≤ maxLen) := fun l h1 h2 => by
    have hin : ∀ s, s ∈ l → ∃ j, j < n ∧ (E j).id = s := fun s hs => chn_id hroom ((h2 s).1 hs)
    refine ⟨Nat.le_trans (ids_len hroom (h1.imp fun hab e => by subst e; exact absurd hab (List.lt_irrefl _)) hin) h300, fun s hs => ?_⟩
    obtain ⟨j, hj, rfl⟩ := hin s hs
    rcases h.cells with h0 | ⟨_, _, _, _, hc⟩
    · omega
    · obtain ⟨_, _, _, _, _, _, _, hok⟩ := hc j hj
      exact hok.hid
  have HB : Hid (∀ w1, (wa.alloc (.cells #[] 9)).grownBy w1 (some wa.heap.size) → Below wa.heap.size wa w1) := fun w1 hg => hbA.grown hg (by simp) (fun q hq => by
    have : some wa.heap.size = some q := hq
    injection this with this
    omega)
  have hown0 : (wa.alloc (.cells #[] 9)).ownsRow wa.heap.size 9 1 (.slice (some ⟨wa.heap.size, 0, none⟩) 0 0) 0 [] := OwnL.new wa wa.heap.size (Nat.le_refl _)
  have Hsrc : ∀ (j : Nat) (u : Value), [Value.string (E k).id][j]? = some u → (wa.alloc (.cells #[] 9)).cell? ((⟨ib, io, none⟩ : Addr).add j) = some u := fun j u hj => by
    have hw := hba.trans (hbA.mono hba.size)
    cases j with
    | zero => rw [Addr.add_lit, Nat.add_zero]; injection hj with hj; rw [← hj]; exact (hw.cell (by exact hib)).trans hid
    | succ j => cases hj
  have hs1 : ∀ u ∈ [Value.string (E k).id], u.oneCell' = true := fun u hu => by
    simp only [List.mem_cons, List.not_mem_nil, or_false] at hu
    subst hu; rfl
  have HFin : Hid (∀ (w3 : World) (v3 : Value) (l2 : List ByteArray), Below w.heap.size w w3 → OwnL w3 w.heap.size v3 ((E k).id :: l2) → l2.length ≤ 300 → (∀ s ∈ l2, s.size ≤ maxLen) → (∀ s, s ∈ l2 ↔ Chn E n (fun _ => (E k).id) 1 s) → ∃ a3 c3, v3 = .slice a3 (l2.length + 1) c3 ∧ Calls Try.prog 34 #[.slice a3 (l2.length + 1) c3] w3 (FuPost w (fun s => s = (E k).id ∨ Chn E n (fun _ => (E k).id) 1 s))) := fun w3 v3 l2 hw3 ho h1 h2 h3 => by
    obtain ⟨a3, c3, rfl, hsl, _⟩ := ho.sl (fun s hs => by
      rcases List.mem_cons.1 hs with e | e
      · rw [e]; exact hsz
      · exact h2 s e)
    refine ⟨a3, c3, rfl, (l2s_sl w3 (by simp only [List.length_cons]; omega) hsl).mono ?_⟩
    rintro x w4 ⟨v, l, rfl, ho4, hs4, hm4, hb4⟩
    refine ⟨v, l, rfl, ho4.mono hw3.size, hs4, fun s => ?_, hw3.trans (hb4.mono hw3.size)⟩
    rw [hm4]
    constructor
    · rintro ⟨i, hi, e⟩
      have := getL_mem (l := (E k).id :: l2) hi
      rw [e] at this
      rcases List.mem_cons.1 this with e2 | e2
      · exact Or.inl e2
      · exact Or.inr ((h3 s).1 e2)
    · intro hs
      refine mem_getL (l := (E k).id :: l2) ?_
      rcases hs with e | e
      · rw [e]; exact List.mem_cons_self
      · exact List.mem_cons_of_mem _ ((h3 s).2 e)
  clear hids hbA
  obtain ⟨wz, hwz⟩ : ∃ W : World, W = wa := ⟨_, rfl⟩
  rw [hwa] at hown0 Hsrc
  have HB2 : Hid (∀ w1, ((w.alloc (.cells #[.slice a n cap] 34)).alloc (.cells #[] 9)).grownBy w1 (some (w.alloc (.cells #[.slice a n cap] 34)).heap.size) → Below wa.heap.size wa w1) := by rw [← hwa]; exact HB
  have Hsz : Hid (wa.heap.size = w.heap.size + 1) := by unfold Hid; rw [hwa]; simp
  simp only [World.size_alloc] at hown0 HB2
  clear hwz HB
  go_enter Try.func16, Try.ntmps16
  go_wp2_with (at_builtin; refine wpList_append_own _ rfl _ _ 46 rfl _ 9 i0 (.string ByteArray.empty) 1 16 Try.underlying46 hi hz0 hz1 hz2 rfl (by decide) _ _ _ rfl hown0 ⟨ib, io, none⟩ 1 icap [.string (E k).id] rfl rfl Hsrc hs1 (by decide) (by decide) (by simp) ?_; intro v1 w1 hown1 hgrow1 hnn1; have hb1 := HB2.out w1 hgrow1; have c1 := hca.out _ hb1)
  have ho1 : OwnL w1 wa.heap.size v1 [(E k).id] := by rw [Hsz.out]; exact hown1
  have hw1 := hba.trans (hb1.mono hba.size)
  refine (Hch.out _ hw1).mono ?_
  rintro x w2 ⟨v2, l2, rfl, ho2, hs2, hm2, hb2⟩
  obtain ⟨hl2, hsz2⟩ := Hlen.out l2 hs2 hm2
  have hw2 := hw1.trans (hb2.mono hw1.size)
  have ho1' := ho1.below hb2
  rcases ho1.shape with ⟨_, h0⟩ | ⟨g1, cc1, rfl, hg1, hg1l, hc1, hc1m⟩
  · cases h0
  have hg1w : w.heap.size ≤ g1 := by have := hba.size; omega
  rcases ho2.shape with ⟨rfl, rfl⟩ | ⟨g2, cc2, rfl, hg2, hg2l, hc2, hc2m⟩
  · have hap := fun ty => run_append_room_src (P := Try.prog) (w := w2) 46 46 ty 9 i0 Try.underlying46 hi g1 0 1 cc1 (.slice none 0 0) 0 [] (Src.ofNil _ Try.underlying46 0) hc1 (fun j hj => absurd hj (Nat.not_lt_zero _)) (fun j hj => absurd hj (Nat.not_lt_zero _))
    simp only [World.setCells, Nat.add_zero] at hap
    obtain ⟨a3, c3, e3, hcall⟩ := HFin.out w2 _ [] hw2 (ho1'.mono (by have := hba.size; omega)) hl2 hsz2 hm2
    injection e3 with e31 e32 e33
    subst e31 e33
    have HCall : Hid (Calls Try.prog 34 #[.slice (some ⟨g1, 0, none⟩) 1 cc1] w2 (FuPost w (fun s => s = (E k).id ∨ Chn E n (fun _ => (E k).id) 1 s))) := hcall
    clear hcall HFin hm2 hs2
    go_wp2_with fail
    refine HCall.out.mono ?_
    rintro x w4 ⟨v4, l4, rfl, q1, q2, q3, q4⟩
    have HP : Hid (FuPost w (fun s => s = (E k).id ∨ Chn E n (fun _ => (E k).id) 1 s) (.returned v4) w4) := ⟨v4, l4, rfl, q1, q2, q3, q4⟩
    clear q1 q2 q3 q4
    go_wp2
    go_ret
    exact HP.out
  · have hsrc2 : ∀ (j : Nat) (u : Value), (l2.map Value.string)[j]? = some u → w2.cell? ((⟨g2, 0, none⟩ : Addr).add j) = some u := fun j u hj => ho2.src rfl j u hj
    have hown2 : w2.ownsRow wa.heap.size 9 1 (.slice (some ⟨g1, 0, none⟩) [(E k).id].length cc1) [(E k).id].length ([(E k).id].map Value.string) := ho1'
    have hm1 : 1 + l2.length ≤ maxLen := by unfold maxLen; omega
    have hm2' : (1 + l2.length) * 16 ≤ 140737488355328 := by omega
    have hbs : wa.heap.size ≤ w2.heap.size := by have := hb1.size; have := hb2.size; omega
    have Hm2 : Hid (∀ s, s ∈ l2 ↔ Chn E n (fun _ => (E k).id) 1 s) := hm2
    have HX : Hid (∀ (v3 : Value) (w3 : World), w3.ownsRow wa.heap.size 9 1 v3 (1 + l2.length) ([Value.string (E k).id] ++ l2.map Value.string) → w2.grownBy w3 (some g1) → ∃ a3 c3, v3 = .slice a3 (l2.length + 1) c3 ∧ Hid (Calls Try.prog 34 #[.slice a3 (l2.length + 1) c3] w3 (FuPost w (fun s => s = (E k).id ∨ Chn E n (fun _ => (E k).id) 1 s)))) := fun v3 w3 ho hg => by
      have hw3 : Below w.heap.size w w3 := hw2.grown hg (by have := hw2.size; omega) (fun q hq => by
        have : some g1 = some q := hq
        injection this with this
        omega)
      have ho3 : OwnL w3 w.heap.size v3 ((E k).id :: l2) := by
        have : OwnL w3 wa.heap.size v3 ((E k).id :: l2) := by
          unfold OwnL
          rw [List.length_cons, Nat.add_comm]
          exact ho
        exact this.mono (by have := hba.size; omega)
      exact HFin.out w3 v3 l2 hw3 ho3 hl2 hsz2 Hm2.out
    clear HFin hm2 hs2 ho2
    go_wp2_with (at_builtin; refine wpList_append_own _ rfl _ _ 46 rfl wa.heap.size 9 i0 (.string ByteArray.empty) 1 16 Try.underlying46 hi hz0 hz1 hz2 rfl (by decide) _ _ _ rfl hown2 ⟨g2, 0, none⟩ l2.length cc2 (l2.map Value.string) rfl (by simp) hsrc2 (strL_one l2) hm1 hm2' hbs ?_; intro v3 w3 hown3 hgrow3 _; obtain ⟨a3, c3, e3, hcall⟩ := HX.out v3 w3 hown3 hgrow3; subst e3)
    refine hcall.out.mono ?_
    rintro x w4 ⟨v4, l4, rfl, q1, q2, q3, q4⟩
    have HP : Hid (FuPost w (fun s => s = (E k).id ∨ Chn E n (fun _ => (E k).id) 1 s) (.returned v4) w4) := ⟨v4, l4, rfl, q1, q2, q3, q4⟩
    clear q1 q2 q3 q4
    go_wp2
    go_ret
    exact HP.out
end Go.Proofs.Ytlopjfhdhkonbaa
