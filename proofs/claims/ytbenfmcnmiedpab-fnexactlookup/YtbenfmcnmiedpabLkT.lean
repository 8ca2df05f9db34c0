/-
  spec.Lookup.
-/
import Derived.Test.YtbenfmcnmiedpabLkS
namespace Go.Proofs.Ytbenfmcnmiedpab
open Go.RowKit

theorem posI_in (l : List Ent) (e : Ent) : -1 ≤ posI l e ∧ posI l e < l.length := by
  unfold posI
  split <;> omega
theorem lkF_fuel {G : Nat → Grp} {n : Nat} {kind key : ByteArray} (h : Front G n) : ∀ f i, i < n → i < f → lkF G kind key f i = lkF G kind key (i + 1) i
  | 0, _, _, h' => absurd h' (Nat.not_lt_zero _)
  | f + 1, i, hi, hf => by
    unfold lkF
    by_cases hz : 0 ≤ posI (G i).sets ⟨kind, key, ⟨#[]⟩⟩
    · rw [if_pos hz, if_pos hz]
    · rw [if_neg hz, if_neg hz]
      by_cases hp : (G i).par < 0
      · rw [if_pos hp, if_pos hp]
      · rw [if_neg hp, if_neg hp]
        have := h i hi
        have hlt : (G i).par.toNat < i := by omega
        rw [lkF_fuel h f _ (by omega) (by omega)]
        by_cases e : i = 0
        · omega
        · rw [lkF_fuel h i _ (by omega) hlt]

/-- what is known in the loop: the whole answer is what comes of the group gi, v groups having been visited. -/
def LkIn (G : Nat → Grp) (kind key : ByteArray) (T : ByteArray × Nat) (gi : Int) (v : Nat) : Prop :=
  (gi < 0 ∧ T = (⟨#[]⟩, v)) ∨ ∃ i : Nat, gi = (i : Int) ∧ T.1 = (lkF G kind key (i + 1) i).1 ∧ T.2 = v + (lkF G kind key (i + 1) i).2

/-- what Lookup answers. -/
def LkPost (w : World) (G : Nat → Grp) (n : Nat) (g : Int) (kind key : ByteArray) (e : Ending) (w' : World) : Prop := Below w.heap.size w w' ∧
  ((exOk G n g = true ∧ ∃ q : Nat, g = (q : Int) ∧ e = .returned (.tuple #[.string (lkF G kind key (q + 1) q).1, .int .i64 ((lkF G kind key (q + 1) q).2 : Nat), .bool (!((lkF G kind key (q + 1) q).1.toList == []))])) ∨
   (exOk G n g = false ∧ e = .returned (.tuple #[.string ⟨#[]⟩, .int .i64 0, .bool false])))

set_option maxRecDepth 100000 in
set_option maxHeartbeats 4000000 in
theorem lookS_sl {a : Option Addr} {n cap : Nat} {G : Nat → Grp} (g : Int) (kind key : ByteArray) (w : World) (h : SlT w a n cap G) :
    Calls Try.prog 7 #[.agg #[.slice a n cap], .int .i64 g, .string kind, .string key] w (LkPost w G n g kind key) := by
  have hb0 : ∀ o, Below w.heap.size w (w.alloc o) := fun o => (Below.refl _ _).alloc (Nat.le_refl _) _
  have hnm := Nat.le_trans h.le h.max
  unfold maxLen at hnm
  go_enter Try.func7, Try.ntmps7
  go_wp2_with fail
  refine (storeS_sl _ (h.below (hb0 _))).mono ?_
  rintro e w1 ⟨rfl, hb1⟩
  have hB1 := hb1.mono (B' := w.heap.size + 1) (by simp)
  have hw1 := (hb0 _).trans (hb1.mono (by simp))
  have hcx := box_cells hB1
  clear hb1
  cases hst : stoB G n
  case false =>
    have hf : Hid (exOk G n g = false) := by unfold Hid exOk; rw [hst]; rfl
    go_wp2
    exact bodyPost_ret (v := .tuple #[.string ⟨#[]⟩, .int .i64 0, .bool false]) (by simp [results, Try.results7, go_sem]) rfl ⟨hw1, Or.inr ⟨hf.out, rfl⟩⟩
  case true =>
    by_cases hg0 : g < 0
    · have hf : Hid (exOk G n g = false) := by unfold Hid exOk; rw [decide_eq_false (p := 0 ≤ g) (by omega), Bool.false_and, Bool.and_false]
      go_wp2
      exact bodyPost_ret (v := .tuple #[.string ⟨#[]⟩, .int .i64 0, .bool false]) (by simp [results, Try.results7, go_sem]) rfl ⟨hw1, Or.inr ⟨hf.out, rfl⟩⟩
    by_cases hgn : (n : Int) ≤ g
    · have hf : Hid (exOk G n g = false) := by unfold Hid exOk; rw [decide_eq_false (p := g < n) (by omega), Bool.and_false, Bool.and_false]
      go_wp2
      exact bodyPost_ret (v := .tuple #[.string ⟨#[]⟩, .int .i64 0, .bool false]) (by simp [results, Try.results7, go_sem]) rfl ⟨hw1, Or.inr ⟨hf.out, rfl⟩⟩
    obtain ⟨q, rfl⟩ : ∃ q : Nat, g = (q : Int) := ⟨g.toNat, by omega⟩
    obtain ⟨h1000, hto⟩ := stoB_parts hst
    have ht : Hid (exOk G n (q : Int) = true) := by unfold Hid exOk; rw [hst, decide_eq_true (p := (0 : Int) ≤ q) (by omega), decide_eq_true (p := (q : Int) < n) (by omega)]; rfl
    have Hto : Hid (stoTo G n = true) := hto
    clear hto hst
    obtain ⟨T, hT⟩ : ∃ T, T = lkF G kind key (q + 1) q := ⟨_, rfl⟩
    have HT : Hid (T = lkF G kind key (q + 1) q) := hT
    have hend : Hid (∀ W' b, b = (!(T.1.toList == [])) → Below w.heap.size w W' → LkPost w G n (q : Int) kind key (.returned (.tuple #[.string T.1, .int .i64 (T.2 : Nat), .bool b])) W') := fun W' b hbb hbw => ⟨hbw, Or.inl ⟨ht.out, q, rfl, by rw [hbb, hT]⟩⟩
    clear hT
    have e1 : decide (n ≤ q) = false := decide_eq_false (by omega)
    have e2 : decide ((q : Int) < 0) = false := decide_eq_false (by omega)
    have e3 : decide ((n : Int) ≤ (q : Int)) = false := decide_eq_false (by omega)
    go_wp2_with fail
    try simp only [e1, e2, e3, Bool.or_false]
    clear e1 e2 e3
    go_loopw [1, 11] (fun gv vv wr => ∃ (gi : Int) (v : Nat), gv = .int .i64 gi ∧ vv = .int .i64 (v : Int) ∧ -1 ≤ gi ∧ gi < n ∧ v + gi ≤ q ∧ Hid (LkIn G kind key T gi v) ∧ Below (w.heap.size + 1) w1 wr) (fun gv _ _ => (intOf gv + 1).toNat)
    case atStart => exact ⟨(q : Int), 0, rfl, rfl, by omega, by omega, by omega, Or.inr ⟨q, rfl, by rw [HT.out], by rw [HT.out]; omega⟩, Below.refl _ _⟩
    case round =>
      obtain ⟨gi, v, rfl, rfl, hg1, hg2, hg3, hin, hB⟩ := hrel
      have hbw := hw1.trans (hB.mono (by omega))
      have hbxr := box_cells (hB1.trans hB)
      by_cases hge : 0 ≤ gi
      · obtain ⟨i, rfl⟩ : ∃ i : Nat, gi = (i : Int) := ⟨gi.toNat, by omega⟩
        have hi : i < n := by omega
        rcases h.cells with h0 | ⟨b, off, rfl, hb, hc⟩
        · omega
        obtain ⟨sa, sc, c1, c2, hsl⟩ := (hc i hi).below hbw hb
        have hbr : b < wr.heap.size := Nat.lt_of_lt_of_le hb hbw.size
        have hpb := posI_in (G i).sets ⟨kind, key, ⟨#[]⟩⟩
        have hfr := stoTo_front Hto.out i hi
        have hin1 : Hid (T.1 = (lkF G kind key (i + 1) i).1 ∧ T.2 = v + (lkF G kind key (i + 1) i).2) := by
          rcases hin.out with ⟨hn0, _⟩ | ⟨i', e1, e2⟩
          · omega
          · have : i' = i := by omega
            subst this; exact e2
        clear hc hin
        have hwv : IntKind.i64.wrap ((v : Int) + 1) = (v : Int) + 1 := by rw [IntKind.wrap_i64]; omega
        by_cases hz : 0 ≤ posI (G i).sets ⟨kind, key, ⟨#[]⟩⟩
        · obtain ⟨p, hpn⟩ : ∃ p : Nat, posI (G i).sets ⟨kind, key, ⟨#[]⟩⟩ = (p : Int) := ⟨(posI (G i).sets ⟨kind, key, ⟨#[]⟩⟩).toNat, by omega⟩
          have hT2 : T.1 = (eAt (G i).sets p).id ∧ T.2 = v + 1 := by
            have e1 := hin1.out
            rw [lkF, if_pos hz, hpn] at e1
            exact e1
          have hat : Hid (∀ W, SlE W sa sc (G i).sets → Calls Try.prog 24 #[.slice sa (G i).sets.length sc, entV ⟨kind, key, ⟨#[]⟩⟩] W fun e w' => e = .returned (.int .i64 (p : Int)) ∧ Below W.heap.size W w') := fun W hW => by
            have := at_sl ⟨kind, key, ⟨#[]⟩⟩ W hW
            rw [hpn] at this
            exact this
          have hlt : p < (G i).sets.length := by omega
          rcases hsl.cells with h0 | ⟨bs, os, rfl, hbs, s1, s2, s3⟩
          · rw [h0] at hlt; exact absurd hlt (Nat.not_lt_zero _)
          have cid := s3 p hlt
          have hfin : Hid (∀ W' b, b = (!((eAt (G i).sets p).id.toList == [])) → Below w.heap.size w W' → LkPost w G n (q : Int) kind key (.returned (.tuple #[.string (eAt (G i).sets p).id, .int .i64 ((v + 1 : Nat) : Int), .bool b])) W') := fun W' b hbb hb' => by
            have := hend.out W' b (by rw [hT2.1]; exact hbb) hb'
            rw [hT2.1, hT2.2] at this
            exact this
          have hsls := hsl
          have hlm := Nat.le_trans hsl.le hsl.max
          unfold maxLen at hlm
          clear hend hin1 hT2 HT hz hpn hpb s1 s2 s3 hsl
          go_wp2_with fail
          refine (hat.out _ hsls).mono ?_
          rintro e w2 ⟨rfl, hb2⟩
          have d2 := (hb2.cell (by exact hbr)).trans c2
          have did := (hb2.cell (by exact hbs)).trans cid
          have hbx2 := box_cells ((hB1.trans hB).trans (hb2.mono (by have := (hB1.trans hB).size; simpa using this)))
          have hbw2 := hbw.trans (hb2.mono hbw.size)
          clear c1 c2 cid hbxr
          generalize (eAt (G i).sets p).id = id at *
          cases he : (id.toList == [])
          · have hf2 := hfin.out w2 true (by rw [he]; rfl) hbw2
            have Hf2 : Hid (_) := hf2
            clear hf2 hfin
            go_wp2
            exact bodyPost_ret (v := .tuple #[.string id, .int .i64 ((v + 1 : Nat) : Int), .bool true]) (by simp [results, Try.results7, go_sem]) rfl Hf2.out
          · have hf2 := hfin.out w2 false (by rw [he]; rfl) hbw2
            have Hf2 : Hid (_) := hf2
            clear hf2 hfin
            go_wp2
            exact bodyPost_ret (v := .tuple #[.string id, .int .i64 ((v + 1 : Nat) : Int), .bool false]) (by simp [results, Try.results7, go_sem]) rfl Hf2.out
        · have hpn : posI (G i).sets ⟨kind, key, ⟨#[]⟩⟩ = -1 := by omega
          have hat : Hid (∀ W, SlE W sa sc (G i).sets → Calls Try.prog 24 #[.slice sa (G i).sets.length sc, entV ⟨kind, key, ⟨#[]⟩⟩] W fun e w' => e = .returned (.int .i64 (-1)) ∧ Below W.heap.size W w') := fun W hW => by
            have := at_sl ⟨kind, key, ⟨#[]⟩⟩ W hW
            rw [hpn] at this
            exact this
          have hnext : Hid (LkIn G kind key T (G i).par (v + 1)) := by
            have e1 := hin1.out
            rw [lkF, if_neg hz] at e1
            by_cases hp : (G i).par < 0
            · rw [if_pos hp] at e1
              exact Or.inl ⟨hp, Prod.ext e1.1 e1.2⟩
            · rw [if_neg hp] at e1
              refine Or.inr ⟨(G i).par.toNat, by omega, ?_, ?_⟩
              · rw [e1.1, lkF_fuel (stoTo_front Hto.out) i _ (by omega) (by omega)]
              · rw [e1.2]
                simp only []
                rw [lkF_fuel (stoTo_front Hto.out) i _ (by omega) (by omega)]
                omega
          clear hend hin1 HT hz hpn hpb
          go_wp2_with fail
          refine (hat.out _ hsl).mono ?_
          rintro e w2 ⟨rfl, hb2⟩
          have d1 := (hb2.cell (by exact hbr)).trans c1
          have hbx2 := box_cells ((hB1.trans hB).trans (hb2.mono (by have := (hB1.trans hB).size; simpa using this)))
          have hB2 : Below (w.heap.size + 1) w1 w2 := hB.trans (hb2.mono (by have := (hB1.trans hB).size; simpa using this))
          clear c1 c2 hbxr
          go_wp2
          go_roundw
          case rel => exact ⟨(G i).par, v + 1, rfl, by first | rfl | go_num, by omega, by omega, by omega, hnext, hB2⟩
          case measure => simp only [intOf]; omega
      · have hT0 : T = (⟨#[]⟩, v) := by
          rcases hin.out with ⟨_, e⟩ | ⟨i', e1, _⟩
          · exact e
          · omega
        have he := hend.out wr false (by rw [hT0, ByteArray.toList_eq]; rfl) hbw
        rw [hT0] at he
        have He : Hid (_) := he
        clear he hend hT0 HT hin
        go_wp2
        exact bodyPost_ret (v := .tuple #[.string ⟨#[]⟩, .int .i64 (v : Int), .bool false]) (by simp [results, Try.results7, go_sem]) rfl He.out
end Go.Proofs.Ytbenfmcnmiedpab
