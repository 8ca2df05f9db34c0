import Derived.Test.YtgocjlpbokhoeaaPtLM
import Derived.Test.YtgocjlpbokhoeaaDlLM
import Derived.Test.YtgocjlpbokhoeaaDeI
import Derived.Test.YtgocjlpbokhoeaaDlPM
import Derived.Test.YtgocjlpbokhoeaaOwnM
namespace Go.Proofs.Ytgocjlpbokhoeaa
open Go.RowKit
def paOk (l ch : List Ent) : Bool := (stB l && chB ch) && decide ((patL l ch ch.length).length ≤ 300)
def paV (l ch : List Ent) : List Ent := if paOk l ch then patL l ch ch.length else []
end Go.Proofs.Ytgocjlpbokhoeaa
namespace Go.Proofs.Ytgocjlpbokhoeaa
open Go.RowKit
theorem idsTo_of {l : List Ent} (hi : Ids l) : ∀ n, n ≤ l.length → idsTo l n = true
  | 0, _ => rfl
  | n + 1, h => by unfold idsTo; rw [idsTo_of hi n (by omega), hi _ (eAt_mem l n (by omega))]; rfl
theorem st_of {l : List Ent} (h3 : l.length ≤ 300) (hs : SrtE l) (hi : Ids l) : stB l = true := by
  unfold stB
  rw [ord_of hs]
  have : idsTo l l.length = true := idsTo_of hi _ (Nat.le_refl _)
  simp [this, h3]
theorem sid_eq {x y : Ent} (h1 : x.ty = y.ty) (h2 : x.key = y.key) (h : sidB y x = true) : x = y := by
  obtain ⟨x1, x2, x3⟩ := x
  obtain ⟨y1, y2, y3⟩ := y
  simp only at h1 h2
  subst h1 h2
  unfold sidB at h
  simp only [beq_iff_eq, ByteArray.toList_eq] at h
  rw [ba_eq h]
theorem chg_back {a b : List Ent} (ha : stB a = true) (hb : stB b = true) : paOk a (dl2 a b b.length) = true ∧ paV a (dl2 a b b.length) = b := by
  obtain ⟨ha3, hSa, hIa⟩ := st_parts ha
  obtain ⟨hb3, hSb, hIb⟩ := st_parts hb
  obtain ⟨hSd, hld⟩ := dl_look hSa hIa hSb
  have hlen := dl2_len a b b.length
  have hch : chB (dl2 a b b.length) = true := by
    unfold chB
    rw [ord_of hSd]
    simp
    omega
  have he : patL a (dl2 a b b.length) (dl2 a b b.length).length = b := by
    refine srt_ext_look (patL_srt hSa _) hSb fun s => ?_
    rw [patL_lookAll hSa hSd, hld]
    unfold deF
    cases hla : lookE a s with
    | none =>
      cases hlb : lookE b s with
      | none => rfl
      | some y =>
        show (if y.id.toList.isEmpty then none else some y) = some y
        rw [hIb y (lookE_some hlb).1]; rfl
    | some x =>
      obtain ⟨hxm, hx1, hx2⟩ := lookE_some hla
      cases hlb : lookE b s with
      | none =>
        show (if (wipe x).id.toList.isEmpty then none else some (wipe x)) = none
        have : (wipe x).id.toList.isEmpty = true := by show (⟨#[]⟩ : ByteArray).toList.isEmpty = true; rw [ByteArray.toList_eq]; rfl
        rw [this]; rfl
      | some y =>
        obtain ⟨hym, hy1, hy2⟩ := lookE_some hlb
        show chgTo (if sidB y x = true then none else some y) (some x) = some y
        cases hq : sidB y x
        · simp only [Bool.false_eq_true, if_false]
          show (if y.id.toList.isEmpty then none else some y) = some y
          rw [hIb y hym]; rfl
        · simp only [if_true]
          show some x = some y
          rw [sid_eq (hx1.trans hy1.symm) (hx2.trans hy2.symm) hq]
  have hok : paOk a (dl2 a b b.length) = true := by
    unfold paOk
    rw [he, ha, hch]
    simp [hb3]
  exact ⟨hok, by unfold paV; rw [hok, if_pos rfl, he]⟩
end Go.Proofs.Ytgocjlpbokhoeaa
namespace Go.Proofs.Ytgocjlpbokhoeaa
open Go.RowKit
structure Grp where
  par : Int
  sets : List Ent
def GrpAt (w : World) (b o : Nat) (g : Grp) : Prop := ∃ sa sc, w.cell? ⟨b, o, none⟩ = some (.int .i64 g.par) ∧ w.cell? ⟨b, o + 1, none⟩ = some (.slice sa g.sets.length sc) ∧ SlE w sa sc g.sets
theorem GrpAt.below {w w' : World} {b o : Nat} {g : Grp} (h : GrpAt w b o g) (hb : Below w.heap.size w w') (hlt : b < w.heap.size) : GrpAt w' b o g := by
  obtain ⟨sa, sc, h1, h2, h3⟩ := h
  exact ⟨sa, sc, (hb.cell (by exact hlt)).trans h1, (hb.cell (by exact hlt)).trans h2, h3.below hb⟩
structure SlT (w : World) (a : Option Addr) (n cap : Nat) (G : Nat → Grp) : Prop where
  le : n ≤ cap
  max : cap ≤ maxLen
  cells : n = 0 ∨ ∃ b off, a = some ⟨b, off, none⟩ ∧ b < w.heap.size ∧ ∀ i, i < n → GrpAt w b (off + i * 2) (G i)
theorem SlT.below {w w' : World} {a : Option Addr} {n cap : Nat} {G : Nat → Grp} (h : SlT w a n cap G) (hb : Below w.heap.size w w') : SlT w' a n cap G :=
  ⟨h.le, h.max, h.cells.imp id fun ⟨b, off, e, hlt, hc⟩ => ⟨b, off, e, Nat.lt_of_lt_of_le hlt hb.size, fun i hi => (hc i hi).below hb hlt⟩⟩
def lnk (G : Nat → Grp) : Nat → Nat → Nat
  | 0, _ => 0
  | f + 1, i => if (G i).par < 0 then 0 else 1 + lnk G f (G i).par.toNat
def expF (G : Nat → Grp) : Nat → Nat → List Ent
  | 0, _ => []
  | f + 1, i => if (G i).par < 0 then (G i).sets else patL (expF G f (G i).par.toNat) (G i).sets (G i).sets.length
def Front (G : Nat → Grp) (n : Nat) : Prop := ∀ j, j < n → -1 ≤ (G j).par ∧ (G j).par < j
theorem lnk_le (G : Nat → Grp) : ∀ f i, lnk G f i ≤ f
  | 0, _ => Nat.le_refl _
  | f + 1, i => by
    unfold lnk
    split
    · omega
    · have := lnk_le G f (G i).par.toNat; omega
theorem lnk_fuel {G : Nat → Grp} {n : Nat} (h : Front G n) : ∀ f i, i < n → i < f → lnk G f i = lnk G (i + 1) i
  | 0, _, _, h' => absurd h' (Nat.not_lt_zero _)
  | f + 1, i, hi, hf => by
    unfold lnk
    by_cases hp : (G i).par < 0
    · rw [if_pos hp, if_pos hp]
    · rw [if_neg hp, if_neg hp]
      have := h i hi
      have hlt : (G i).par.toNat < i := by omega
      rw [lnk_fuel h f _ (by omega) (by omega)]
      by_cases e : i = 0
      · omega
      · rw [lnk_fuel h i _ (by omega) hlt]
theorem expF_fuel {G : Nat → Grp} {n : Nat} (h : Front G n) : ∀ f i, i < n → i < f → expF G f i = expF G (i + 1) i
  | 0, _, _, h' => absurd h' (Nat.not_lt_zero _)
  | f + 1, i, hi, hf => by
    unfold expF
    by_cases hp : (G i).par < 0
    · rw [if_pos hp, if_pos hp]
    · rw [if_neg hp, if_neg hp]
      have := h i hi
      have hlt : (G i).par.toNat < i := by omega
      rw [expF_fuel h f _ (by omega) (by omega)]
      by_cases e : i = 0
      · omega
      · rw [expF_fuel h i _ (by omega) hlt]
end Go.Proofs.Ytgocjlpbokhoeaa
