/-
  spec.l2Sorted.
-/
import Derived.Test.YtfjfhnjoghlbfaaGreatOwnB
import Derived.Test.YtfjfhnjoghlbfaaGreatSpecA
import Derived.Sort.Walk0
namespace Go.Proofs.YtfjfhnjoghlbfaaGreat
open Go.RowKit

/-- the answer is sorted, has each of the n texts once, and is the call's own. -/
def L2Post (w : World) (S : Nat → ByteArray) (n : Nat) (e : Ending) (w' : World) : Prop :=
  ∃ v l, e = .returned v ∧ OwnL w' w.heap.size v l ∧ Srt l ∧ (∀ s, s ∈ l ↔ ∃ i, i < n ∧ S i = s) ∧ Below w.heap.size w w'

theorem ins_done {l : List ByteArray} {x : ByteArray} {j : Nat} (h : Srt l) (hx : x ∉ l) (hj : j ≤ l.length) (hhi : ∀ i, j ≤ i → i < l.length → x.data.toList < (getL l i).data.toList)
    (hstop : j = 0 ∨ ∃ q, j = q + 1 ∧ ¬ x.data.toList < (getL l q).data.toList) : Srt (insAt l j x) := by
  refine insAt_srt h (fun i hi hl => ?_) hhi
  rcases hstop with h0 | ⟨q, rfl, hq⟩
  · omega
  · have h1 : (getL l q).data.toList < x.data.toList := by
      rcases List.le_iff_lt_or_eq.1 (List.not_lt.1 hq) with h' | h'
      · exact h'
      · exact absurd (ba_inj h' ▸ getL_mem (by omega)) hx
    by_cases e : i = q
    · subst e; exact h1
    · exact List.lt_trans (srt_get h (show i < q by omega) (by omega)) h1

theorem mem_more {S : Nat → ByteArray} {l l' : List ByteArray} {k : Nat} (h : ∀ s, s ∈ l ↔ ∃ i, i < k ∧ S i = s) (h' : ∀ s, s ∈ l' ↔ s = S k ∨ s ∈ l) (s : ByteArray) : s ∈ l' ↔ ∃ i, i < k + 1 ∧ S i = s := by
  rw [h', h]
  constructor
  · rintro (rfl | ⟨i, hi, e⟩)
    · exact ⟨k, by omega, rfl⟩
    · exact ⟨i, by omega, e⟩
  · rintro ⟨i, hi, e⟩
    by_cases ek : i = k
    · subst ek; exact Or.inl e.symm
    · exact Or.inr ⟨i, by omega, e⟩

set_option maxRecDepth 100000 in
set_option maxHeartbeats 4000000 in
theorem l2s_any (b off n cap : Nat) (S : Nat → ByteArray) (w : World) (hn : n ≤ 1048576) (hb : b < w.heap.size) (hc : ∀ i, i < n → w.cell? ⟨b, off + i, none⟩ = some (.string (S i))) :
    Calls Tryz.prog 51 #[.slice (some ⟨b, off, none⟩) n cap] w (L2Post w S n) := by
  obtain ⟨i0, hi, hz0, hz1, hz2⟩ := info_parts Tryz.infoString
  go_enter Tryz.func51, Tryz.ntmps51
  go_wp2
  go_loopw [3, 4] (fun v i wr => ∃ (k : Nat) (l : List ByteArray) (g cp m : Nat), k ≤ n ∧ i = .int .i64 k ∧ v = .slice (some ⟨g, 0, none⟩) m cp ∧ Hid (m = l.length) ∧ m ≤ k ∧ OwnL wr w.heap.size (.slice (some ⟨g, 0, none⟩) m cp) l ∧ Hid (Srt l) ∧ Hid (∀ s, s ∈ l ↔ ∃ i, i < k ∧ S i = s) ∧ Below w.heap.size w wr) (fun _ i _ => n - (intOf i).toNat)
  case atStart => exact ⟨0, [], w.heap.size, 0, 0, Nat.zero_le _, rfl, rfl, rfl, Nat.le_refl _, OwnL.new w _ (Nat.le_refl _), List.Pairwise.nil, fun s => by simp, (Below.refl _ _).alloc (Nat.le_refl _) _⟩
  case round =>
    obtain ⟨k, l, g, cp, m, hk, rfl, rfl, hm, hmk, hown, hsrt, hmem, hbel⟩ := hrel
    by_cases hlt : k < n
    · have hck : wr.cell? ⟨b, off + k, none⟩ = some (.string (S k)) := (hbel.cell (by exact hb)).trans (hc k hlt)
      have hcl : ∀ i, i < m → wr.cell? ⟨g, 0 + i, none⟩ = some (.string (getL l i)) := fun i hi => by rw [Nat.zero_add]; exact hown.cell hm.out (by rw [← hm.out]; exact hi)
      have Hc : Hid (_) := hc
      clear hc
      go_wp2_with fail
      refine (has_any g 0 m cp (getL l) (S k) wr (by unfold maxLen; omega) hcl).mono ?_
      rintro e w1 ⟨rfl, hw1⟩
      subst hw1
      have hmm := hasB_mem l (S k) m (by rw [hm.out]; exact Nat.le_refl _)
      rw [hm.out, List.take_length, ← hm.out] at hmm
      clear hcl
      cases hh : hasB (getL l) m (S k)
      case true =>
        rw [hh] at hmm
        have Hin : Hid (S k ∈ l) := hmm.1 rfl
        clear hmm
        go_wp2
        go_roundw
        case rel => exact ⟨k + 1, l, g, cp, m, by omega, by go_num, rfl, hm.out, by omega, hown, hsrt.out, mem_more hmem.out (fun s => ⟨Or.inr, fun h => h.elim (fun e => e ▸ Hin.out) id⟩), hbel⟩
        case measure => simp [intOf]; omega
      case false =>
        rw [hh] at hmm
        have Hin : Hid (S k ∉ l) := fun h => by cases hmm.2 h
        clear hmm hh
        have hm1 : m + 1 ≤ maxLen := by unfold maxLen; omega
        have hm2 : (m + 1) * 16 ≤ 140737488355328 := by omega
        have hm3 : ∀ o, w.heap.size ≤ (w1.alloc o).heap.size := fun o => by have := hbel.size; simp; omega
        have hag : Hid (∀ q, (Value.slice (some ⟨g, 0, none⟩) m cp).ownBlock = some q → w.heap.size ≤ q) := fun q hq => by have := World.ownsRow.lt hown q hq; exact this.1
        have hown' : w1.ownsRow w.heap.size 9 1 (.slice (some ⟨g, 0, none⟩) m cp) m (l.map Value.string) := by have := hown; unfold OwnL at this; rw [← hm.out] at this; exact this
        go_wp2_with (at_builtin; refine wpList_append_lies _ rfl _ _ 25 rfl w.heap.size 9 i0 (.string ByteArray.empty) 1 16 Tryz.underlying25 hi hz0 hz1 hz2 rfl (by decide) _ _ _ rfl (World.ownsRow.alloc hown' _) ⟨w1.heap.size, 0, none⟩ 1 1 [.string (S k)] rfl rfl (one_cells _ _ _) (one_one _) (by decide) hm1 hm2 (hm3 _) (w1.heap.size + 1) (by simp) ?_; intro gg cq w2 hown2 hgrow2 hat2 hlt2)
        have hown3 : OwnL w2 w.heap.size (.slice (some ⟨gg, 0, none⟩) (m + 1) cq) (insAt l m (S k)) := by
          rw [hm.out, insAt_end]
          rw [hm.out] at hown2
          exact OwnL.snoc hown2
        have hbel2 := (hbel.alloc hbel.size _).grown hgrow2 (hm3 _) hag.out
        clear hown2 hgrow2 hat2 hown' hown hbel hm1 hm2 hm3 hag
        go_loopw [5] (fun jv wi => ∃ j : Nat, jv = .int .i64 j ∧ j ≤ m ∧ OwnL wi w.heap.size (.slice (some ⟨gg, 0, none⟩) (m + 1) cq) (insAt l j (S k)) ∧ Hid (∀ i, j ≤ i → i < l.length → (S k).data.toList < (getL l i).data.toList) ∧ Below w.heap.size w wi) (fun jv _ => (intOf jv).toNat)
        case atStart => exact ⟨m, by go_num, Nat.le_refl _, hown3, fun i h1 h2 => absurd h1 (by rw [hm.out]; omega), hbel2⟩
        case round =>
          obtain ⟨j, rfl, hj, hown4, hhi, hbel4⟩ := hrel
          have hlen : m + 1 = (insAt l j (S k)).length := by rw [insAt_len (by rw [← hm.out]; exact hj), ← hm.out]
          have hml : m ≤ l.length := by rw [hm.out]; exact Nat.le_refl _
          by_cases h0 : 0 < j
          · obtain ⟨q, rfl⟩ : ∃ q, j = q + 1 := ⟨j - 1, by omega⟩
            have c1 : wr.cell? ⟨gg, q + 1, none⟩ = some (.string (S k)) := by rw [hown4.cell hlen (by omega), insAt_get (by omega)]
            have c2 : wr.cell? ⟨gg, q, none⟩ = some (.string (getL l q)) := by rw [hown4.cell hlen (by omega), insAt_before (by omega)]
            have f1 := hown4.frozen hlen (q + 1)
            have f2 := hown4.frozen hlen q
            cases hless : Op.bytesLess (S k).toList (getL l q).toList
            · have Hs : Hid (Srt (insAt l (q + 1) (S k))) := ins_done hsrt.out Hin.out (by omega) hhi.out (Or.inr ⟨q, rfl, by
                rw [ByteArray.toList_eq, ByteArray.toList_eq, bytesLess_eq] at hless
                simpa using hless⟩)
              have HL : Hid (_) := hlen
              clear hlen hml
              go_wp2_with fail
              go_region
              all_goals go_wp2
              all_goals refine ⟨⟨k + 1, insAt l (q + 1) (S k), gg, cq, m + 1, by omega, by go_num, rfl, HL.out, by omega, hown4.kept (fun _ _ _ => rfl), Hs.out, mem_more hmem.out (fun s => insAt_mem), by first | exact hbel4.drew | exact hbel4.drew.drew⟩, by simp [intOf]; omega⟩
            · have Hl : Hid ((S k).data.toList < (getL l q).data.toList) := by
                rw [ByteArray.toList_eq, ByteArray.toList_eq, bytesLess_eq] at hless
                simpa [Hid] using hless
              have hown5 := ((hown4.put hlen (q + 1) (getL l q)).put (by rw [List.length_set]; exact hlen) q (S k))
              rw [insAt_swap (by omega)] at hown5
              have Ho : Hid (_) := hown5
              have HL : Hid (_) := hlen
              have c3 : (wr.setCell ⟨gg, q + 1, none⟩ (.string (getL l q))).cell? ⟨gg, q, none⟩ = some (.string (getL l q)) := by rw [set_far (by omega)]; exact c2
              have f3 : (wr.setCell ⟨gg, q + 1, none⟩ (.string (getL l q))).frozen? ⟨gg, q, none⟩ = false := by rw [World.frozen?_setCell]; exact f2
              have hgl : Hid (w.heap.size ≤ gg) := by have := World.ownsRow.lt hown4 gg rfl; exact this.1
              clear hlen hml hown5
              go_wp2_with fail
              go_region
              all_goals go_wp2
              all_goals refine ⟨⟨q, rfl, by omega, OwnL.kept Ho.out (fun _ _ _ => rfl), fun i h1 h2 => ?_, ((hbel4.setCell hgl.out _).setCell hgl.out _).drew⟩, by simp [intOf]⟩
              all_goals
                by_cases e : i = q
                · subst e; exact Hl.out
                · exact hhi.out i (by omega) h2
          · have hj0 : j = 0 := by omega
            subst hj0
            have Hs : Hid (Srt (insAt l 0 (S k))) := ins_done hsrt.out Hin.out (by omega) hhi.out (Or.inl rfl)
            have HL : Hid (_) := hlen
            clear hlen hml
            go_wp2_with fail
            go_region
            all_goals go_wp2
            all_goals refine ⟨⟨k + 1, insAt l 0 (S k), gg, cq, m + 1, by omega, by go_num, rfl, HL.out, by omega, hown4.kept (fun _ _ _ => rfl), Hs.out, mem_more hmem.out (fun s => insAt_mem), by first | exact hbel4.drew | exact hbel4.drew.drew⟩, by simp [intOf]; omega⟩
    · have hkn : k = n := by omega
      subst hkn
      go_wp2
      go_ret
      exact ⟨_, l, rfl, hown, hsrt.out, hmem.out, hbel⟩

theorem l2s_zero (a : Option Addr) (cap : Nat) (S : Nat → ByteArray) (w : World) :
    Calls Tryz.prog 51 #[.slice a 0 cap] w (L2Post w S 0) := by
  go_enter Tryz.func51, Tryz.ntmps51
  go_wp2
  refine wp_loop_rounds 1 ?_
  rw [rounds_succ]
  go_wp2
  go_ret
  exact ⟨_, [], rfl, OwnL.new w _ (Nat.le_refl _), List.Pairwise.nil, fun s => by simp, (Below.refl _ _).alloc (Nat.le_refl _) _⟩

theorem l2s_sl {a : Option Addr} {n cap : Nat} {S : Nat → ByteArray} (w : World) (hn : n ≤ 1048576) (h : SlS w a n cap S) :
    Calls Tryz.prog 51 #[.slice a n cap] w (L2Post w S n) := by
  rcases h.cells with rfl | ⟨b, off, rfl, hb, hc⟩
  · exact l2s_zero a cap S w
  · exact l2s_any b off n cap S w hn hb hc
end Go.Proofs.YtfjfhnjoghlbfaaGreat
