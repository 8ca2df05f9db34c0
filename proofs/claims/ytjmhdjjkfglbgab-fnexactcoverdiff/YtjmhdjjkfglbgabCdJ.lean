import Derived.Test.YtjmhdjjkfglbgabCdP
import Derived.Test.YtjmhdjjkfglbgabOwnI
import Derived.Laws.OwnMore
import Derived.Deep.RegionWith
namespace Go.Proofs.Ytjmhdjjkfglbgab
open Go.RowKit

/-- the joined numbers while one more row X is laid in, behind its first c numbers. -/
def jw (J X : Nat → Int) (c k : Nat) : Int := if k < c then max (J k) (X k) else J k
theorem jw_at (J X : Nat → Int) (c : Nat) : jw J X (c + 1) c = if J c < X c then X c else J c := by
  unfold jw
  rw [if_pos (Nat.lt_succ_self _)]
  split <;> omega
theorem jw_off (J X : Nat → Int) {c k : Nat} (hk : k ≠ c) : jw J X c k = jw J X (c + 1) k := by
  unfold jw
  by_cases h : k < c
  · rw [if_pos h, if_pos (by omega)]
  · rw [if_neg h, if_neg (by omega)]
theorem ints_set (X X' : Nat → Int) (n c : Nat) (x : Int) (hx : x = X' c) (h : ∀ k, k < n → k ≠ c → X k = X' k) : (ints X n).set c (.int .i64 x) = ints X' n := by
  refine List.ext_getElem? fun k => ?_
  rw [List.getElem?_set]
  by_cases hk : c = k
  · subst hk
    by_cases hn : c < n
    · simp [ints, hn, hx]
    · simp [ints, hn]
  · rw [if_neg hk]
    by_cases hn : k < n
    · rw [ints_get X n k hn, ints_get X' n k hn, h k hn (by omega)]
    · rw [List.getElem?_eq_none (by rw [ints_len]; omega), List.getElem?_eq_none (by rw [ints_len]; omega)]
theorem ints_congr (X X' : Nat → Int) (n : Nat) (h : ∀ k, k < n → X k = X' k) : ints X n = ints X' n := by
  refine List.ext_getElem? fun k => ?_
  by_cases hn : k < n
  · rw [ints_get X n k hn, ints_get X' n k hn, h k hn]
  · rw [List.getElem?_eq_none (by rw [ints_len]; omega), List.getElem?_eq_none (by rw [ints_len]; omega)]

theorem OwnI.cast {w : World} {base n n' : Nat} {v : Value} {X X' : Nat → Int} (h : OwnI w base v n X) (hn : n = n') (hX : ∀ k, k < n → X k = X' k) : OwnI w base v n' X' := by
  subst hn
  unfold OwnI at h ⊢
  rw [← ints_congr X X' n hX]; exact h
theorem jn_le {nr : Nat} {rn : Nat → Nat} {Y : Nat → Int} {B : Nat} (hR : ∀ i, i < nr → rn i ≤ B) : ∀ m, jn nr rn Y m ≤ B
  | 0 => Nat.zero_le _
  | m + 1 => by
    have := jn_le (Y := Y) hR m
    rw [jn_step]
    split
    · rename_i h
      have := hR (Y m).toNat (by omega)
      omega
    · exact this
theorem OwnI.cellAt {w : World} {base g n cap : Nat} {X : Nat → Int} (h : OwnI w base (.slice (some ⟨g, 0, none⟩) n cap) n X) (c : Nat) (hc : c < n) : w.cell? ⟨g, c, none⟩ = some (.int .i64 (X c)) := by
  rw [World.ownsRow.cellAt h c (by omega), ints_get X n c hc]
/-- behind the store of one number. -/
theorem OwnI.put {w : World} {base g n cap c : Nat} {X X' : Nat → Int} {x : Int} (h : OwnI w base (.slice (some ⟨g, 0, none⟩) n cap) n X) (hx : x = X' c) (hX : ∀ k, k < n → k ≠ c → X k = X' k) :
    OwnI (w.setCell ⟨g, c, none⟩ (.int .i64 x)) base (.slice (some ⟨g, 0, none⟩) n cap) n X' := by
  have := (World.ownsRow.stored h c (.int .i64 x)).1
  rw [ints_set X X' n c x hx hX] at this
  exact this

set_option maxRecDepth 100000 in
set_option maxHeartbeats 4000000 in
theorem joinI_any {ra : Option Addr} {nr cr : Nat} {rn : Nat → Nat} {X : Nat → Nat → Int} (b off m cap : Nat) (Y : Nat → Int) (w : World) (hm : m ≤ maxLen) (hb : b < w.heap.size) (hR : ∀ i, i < nr → rn i ≤ 1048576)
    (hl : SlL w ra nr cr rn X) (hc : ∀ i, i < m → w.cell? ⟨b, off + i, none⟩ = some (.int .i64 (Y i))) :
    Calls Try.prog 41 #[.slice ra nr cr, .slice (some ⟨b, off, none⟩) m cap] w fun e w' => ∃ v, e = .returned v ∧ OwnI w' w.heap.size v (jn nr rn Y m) (jv nr rn X Y m) ∧ Below w.heap.size w w' := by
  obtain ⟨i0, hi, hz0, hz1, hz2⟩ := info_parts Try.infoIntO
  unfold maxLen at hm
  go_enter Try.func41, Try.ntmps41
  go_wp2
  go_loopw [5, 12] (fun v i wr => ∃ j : Nat, j ≤ m ∧ i = .int .i64 j ∧ OwnI wr w.heap.size v (jn nr rn Y j) (jv nr rn X Y j) ∧ Below w.heap.size w wr) (fun _ i _ => m - (intOf i).toNat)
  case atStart => exact ⟨0, Nat.zero_le _, rfl, OwnI.nil w _ _, Below.refl _ _⟩
  case round =>
    obtain ⟨j, hj, rfl, hown, hbel⟩ := hrel
    by_cases hlt : j < m
    · have hck : wr.cell? ⟨b, off + j, none⟩ = some (.int .i64 (Y j)) := (hbel.cell (by exact hb)).trans (hc j hlt)
      by_cases hy : 0 ≤ Y j ∧ Y j < nr
      · obtain ⟨r, hr⟩ : ∃ r : Nat, Y j = r := ⟨(Y j).toNat, by omega⟩
        have hrn : r < nr := by omega
        have hjn : jn nr rn Y (j + 1) = max (jn nr rn Y j) (rn r) := by rw [jn_step, if_pos hy, hr]; rfl
        have hjv : ∀ k, jv nr rn X Y (j + 1) k = jw (jv nr rn X Y j) (X r) (rn r) k := fun k => by
          rw [jv_step, hr]; unfold jw
          by_cases hk : k < rn r
          · rw [if_pos ⟨by omega, by simpa using hk⟩, if_pos hk]; rfl
          · rw [if_neg (fun e => hk (by simpa using e.2)), if_neg hk]
        have HJ : Hid (_ ∧ _) := ⟨hjn, hjv⟩
        have hout : Hid (∀ k, jn nr rn Y j ≤ k → jv nr rn X Y j k = 0) := fun k => jv_out nr rn X Y k j
        obtain ⟨bl, ol, rfl, hbl, rr, rc, hrow0, hsl⟩ := hl.at (j := r) hrn
        have hrow : wr.cell? ⟨bl, ol + r, none⟩ = some (.slice rr (rn r) rc) := (hbel.cell (by exact hbl)).trans hrow0
        have hnB : jn nr rn Y j ≤ 1048576 := jn_le hR j
        have hRr := hR r hrn
        rw [hr] at hck
        clear hjn hjv hr hy
        generalize jv nr rn X Y j = J at *
        generalize hn : jn nr rn Y j = n at *
        go_wp2_with fail
        go_loopw [5, 29] (fun v i wi => ∃ c : Nat, c ≤ rn r ∧ i = .int .i64 c ∧ OwnI wi w.heap.size v (max n c) (jw J (X r) c) ∧ Below w.heap.size w wi) (fun _ i _ => rn r - (intOf i).toNat)
        case atStart => exact ⟨0, Nat.zero_le _, rfl, hown.cast (by omega) (fun k _ => by simp [jw]), hbel⟩
        case round =>
          obtain ⟨c, hcr, rfl, howni, hbi⟩ := hrel
          by_cases hcl : c < rn r
          · obtain ⟨br, ob, rfl, hbr, hx⟩ := hsl.at (j := c) hcl
            have hxi : wr.cell? ⟨br, ob + c, none⟩ = some (.int .i64 (X r c)) := (hbi.cell (by exact hbr)).trans hx
            have hm1 : c + 1 ≤ maxLen := by unfold maxLen; omega
            have hm2 : (c + 1) * 8 ≤ 140737488355328 := by omega
            have hm3 : ∀ o, w.heap.size ≤ (wr.alloc o).heap.size := fun o => by have := hbi.size; simp; omega
            by_cases hcn : n ≤ c
            · have hmx : max n c = c := by omega
              rw [hmx] at howni
              have h0 : Hid (J c = 0) := hout.out c hcn
              obtain ⟨va, vc, rfl, _⟩ := howni.sl
              have hag : ∀ q, (Value.slice va c vc).ownBlock = some q → w.heap.size ≤ q := fun q hq => (World.ownsRow.lt howni q hq).1
              go_wp2_with (at_builtin; refine wpList_append_lies _ rfl _ _ 40 rfl w.heap.size 3 i0 (.int .i64 0) 1 8 Try.underlying40 hi hz0 hz1 hz2 rfl (by decide) _ _ _ rfl (World.ownsRow.alloc howni _) ⟨wr.heap.size, 0, none⟩ 1 1 [.int .i64 0] rfl rfl (one_cellsI _ _ _) (one_oneI _) (by decide) hm1 hm2 (hm3 _) (wr.heap.size + 1) (by simp) ?_; intro gg cap3 w4 hown4 hgrow hat hlt4; have hown5 : OwnI w4 w.heap.size (.slice (some ⟨gg, 0, none⟩) (c + 1) cap3) (c + 1) (jw J (X r) c) := OwnI.snoc hown4 (by simp [jw, h0.out]); have hcell : w4.cell? ⟨gg, c, none⟩ = some (.int .i64 (J c)) := (OwnI.cellAt hown5 c (by omega)).trans (by simp [jw]); have hfz : w4.frozen? ⟨gg, c, none⟩ = false := World.ownsRow.frozenAt hown5 c)
              all_goals
                have hgg : w.heap.size ≤ gg := (World.ownsRow.lt hown5 gg rfl).1
                refine ⟨⟨.slice (some ⟨gg, 0, none⟩) (c + 1) cap3, .int .i64 c, .int .i64 (X r c), .int .i64 ((c : Int) + 1), ⟨c + 1, by omega, by go_num, (hown5.put (c := c) (X' := jw J (X r) (c + 1)) (by rw [jw_at]; split <;> omega) (fun k _ hk => jw_off _ _ hk)).cast (by omega) (fun _ _ => rfl), ((hbi.alloc hbi.size _).grown hgrow (hm3 _) hag).setCell hgg _⟩, rfl, rfl, rfl, rfl⟩, by simp [intOf]; omega⟩
            · have hmx : max n c = n := by omega
              rw [hmx] at howni
              rcases howni.cells with ⟨_, h0⟩ | ⟨g5, cap5, rfl, hg5, hlt5, _⟩
              · omega
              have hcell : wr.cell? ⟨g5, c, none⟩ = some (.int .i64 (J c)) := (OwnI.cellAt howni c (by omega)).trans (by simp [jw])
              have hfz : wr.frozen? ⟨g5, c, none⟩ = false := World.ownsRow.frozenAt howni c
              go_wp2
              go_roundw
              case rel => exact ⟨c + 1, by omega, by go_num, (howni.put (c := c) (X' := jw J (X r) (c + 1)) (by rw [jw_at]) (fun k _ hk => jw_off _ _ hk)).cast (by omega) (fun _ _ => rfl), hbi.setCell hg5 _⟩
              case measure => simp [intOf]; omega
          · have hce : c = rn r := by omega
            subst hce
            go_wp2
            go_roundw
            case rel => exact ⟨j + 1, by omega, by go_num, howni.cast HJ.out.1.symm (fun k _ => (HJ.out.2 k).symm), hbi⟩
            case measure => simp [intOf]; omega
      · have hjn : Hid (jn nr rn Y (j + 1) = jn nr rn Y j) := by unfold Hid; rw [jn_step, if_neg hy]
        have hjv : Hid (∀ k, jv nr rn X Y (j + 1) k = jv nr rn X Y j k) := fun k => by rw [jv_step, if_neg (fun e => hy e.1)]
        by_cases h0 : Y j < 0
        · go_wp2
          go_roundw
          case rel => exact ⟨j + 1, by omega, by go_num, hown.cast hjn.out.symm (fun k _ => (hjv.out k).symm), hbel⟩
          case measure => simp [intOf]; omega
        · have h1 : (nr : Int) ≤ Y j := by omega
          go_wp2
          go_roundw
          case rel => exact ⟨j + 1, by omega, by go_num, hown.cast hjn.out.symm (fun k _ => (hjv.out k).symm), hbel⟩
          case measure => simp [intOf]; omega
    · have hjm : j = m := by omega
      subst hjm
      go_wp2
      go_ret
      exact ⟨_, rfl, hown, hbel⟩
end Go.Proofs.Ytjmhdjjkfglbgab
