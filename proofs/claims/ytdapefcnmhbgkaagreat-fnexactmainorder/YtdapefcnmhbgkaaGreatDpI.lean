/-
  impl's depths.
-/
import Derived.Test.YtdapefcnmhbgkaaGreatMlA
import Derived.Test.YtdapefcnmhbgkaaGreatRpI
import Derived.Test.YtdapefcnmhbgkaaGreatMlI
namespace Go.Proofs.YtdapefcnmhbgkaaGreat
open Go.RowKit Go.Maps Go.ChangeMaps

set_option maxRecDepth 100000 in
set_option maxHeartbeats 2000000 in
theorem depI_sl {a : Option Addr} {n cap m : Nat} {E : Nat → Ev} {ra : Option Addr} {rc : Nat} {la : Option Addr} {lc : Nat} {l : List Nat} (w : World) (hroom : roomTo E n = true) (hd : l.Pairwise (fun a b => b < a)) (hmem : ∀ i ∈ l, i < n) (hll : l.length ≤ n) (h : SlV w a n cap E) (hr : SlL w ra n rc (restN E) (restV E)) (hl : SlI w la l.length lc (lX l)) :
    Calls Tryz.prog 43 #[.agg #[.slice a n cap, .map (some m), .slice ra n rc], .slice la l.length lc] w fun e w' =>
      ∃ b, e = .returned (.slice (some ⟨b, 0, none⟩) n n) ∧ w.heap.size ≤ b ∧ InAt w' b n (fun i => (dp E n l (i : Int) : Int)) ∧ Below w.heap.size w w' := by
  have h300 := room_300 hroom
  obtain ⟨wb, hwb⟩ : ∃ wb, wb = w.alloc (.cells #[.slice a n cap, .map (some m), .slice ra n rc] 48) := ⟨_, rfl⟩
  have hb0 : Below w.heap.size w wb := by rw [hwb]; exact (Below.refl _ _).alloc (Nat.le_refl _) _
  have hs0 : wb.heap.size = w.heap.size + 1 := by rw [hwb]; simp
  have hbx : Hid (∀ wx, Below (w.heap.size + 1) wb wx → ∀ o, wx.cell? ⟨w.heap.size, o, none⟩ = (#[.slice a n cap, .map (some m), .slice ra n rc] : Array Value)[o]?) := fun wx hx => by subst hwb; exact box_cells hx
  have Hroom : Hid (_) := hroom
  have Hd : Hid (_) := hd
  have Hmem : Hid (∀ i ∈ l, i < n) := hmem
  clear hroom hd hmem
  have hc0 : ((w.alloc (.cells #[.slice a n cap, .map (some m), .slice ra n rc] 48)).alloc (.cells #[.int .i64 (l.length : Int)] 3)).cell? ⟨w.heap.size + 1, 0, none⟩ = some (.int .i64 (l.length : Int)) := World.cell?_alloc_at _ _ _ _ (by simp)
  have hz : Hid (∀ wx, Below ((w.alloc (.cells #[.slice a n cap, .map (some m), .slice ra n rc] 48)).alloc (.cells #[.int .i64 (l.length : Int)] 3)).heap.size ((w.alloc (.cells #[.slice a n cap, .map (some m), .slice ra n rc] 48)).alloc (.cells #[.int .i64 (l.length : Int)] 3)) wx → Below (w.heap.size + 1) wb wx) := fun wx hx => by
    subst hwb
    exact ((Below.refl (w.heap.size + 1) _).alloc (by simp) _).trans (hx.mono (by simp))
  clear hwb
  go_enter Tryz.func43, Tryz.ntmps43
  go_wp2_with fail
  refine (repI_any (l.length : Int) n (w.heap.size + 1) _ h300 (by simp) hc0).mono ?_
  rintro e w1 ⟨b, rfl, hb1, hin1, hbel1⟩
  have hB1 := hz.out _ hbel1
  have hbs : w.heap.size + 1 ≤ b := by simp at hb1; omega
  clear hc0 hz hbel1 hb1
  go_wp2_with fail
  go_loopw [19] (fun i wr => ∃ k : Nat, k ≤ l.length ∧ i = .int .i64 k ∧ InAt wr b n (fun i => dpA l k i) ∧ Below (w.heap.size + 1) wb wr) (fun i _ => l.length - (intOf i).toNat)
  case atStart => exact ⟨0, Nat.zero_le _, rfl, hin1.congr (fun i _ => dpA_zero l i), hB1⟩
  case round =>
    clear hin1 hB1
    obtain ⟨k, hk, rfl, hin, hB⟩ := hrel
    have hbw := hb0.trans (hB.mono (by omega))
    by_cases hlt : k < l.length
    · rcases hl.cells with h0 | ⟨bl, ol, rfl, hbl, hcl⟩
      · omega
      obtain ⟨j, hj, e⟩ := lX_lt Hmem.out hlt
      have hck : wr.cell? ⟨bl, ol + k, none⟩ = some (.int .i64 (j : Int)) := by rw [← e]; exact (hbw.cell (by exact hbl)).trans (hcl k hlt)
      have hm1 := (hin.2 j hj).1
      have hm2 := (hin.2 j hj).2
      have Hin : Hid (InAt (wr.setCell ⟨b, j, none⟩ (.int .i64 (k : Int))) b n (fun i => dpA l (k + 1) i)) := (hin.set hj (k : Int)).congr (fun i _ => dpA_step Hd.out hlt e)
      clear hcl hin e
      go_wp2
      go_roundw
      case rel => exact ⟨k + 1, by omega, by go_num, Hin.out, hB.setCell hbs _⟩
      case measure => simp [intOf]; omega
    · have hkn : k = l.length := by omega
      subst hkn
      go_wp2_with fail
      go_loopw [31] (fun i wr => ∃ k : Nat, k ≤ n ∧ i = .int .i64 k ∧ InAt wr b n (fun i => dpB E n l k i) ∧ Below (w.heap.size + 1) wb wr) (fun i _ => n - (intOf i).toNat)
      case atStart => exact ⟨0, Nat.zero_le _, rfl, hin.congr (fun i _ => dpB_zero E n l i), hB⟩
      case round =>
        clear hin hB hbw
        obtain ⟨k, hk, rfl, hin, hB⟩ := hrel
        have hbw := hb0.trans (hB.mono (by omega))
        have hbx2 := hbx.out _ hB
        have hso : w.heap.size + 1 ≤ wr.heap.size := by have := hB.size; omega
        by_cases hlt : k < n
        · go_wp2_with fail
          refine (powI_sl _ Hroom.out hlt (h.below hbw) (hr.below hbw)).mono ?_
          rintro e w2 ⟨rfl, hb2⟩
          have hB2 := hB.trans (hb2.mono hso)
          have hin2 := hin.below hb2
          have hm1 : w2.cell? ⟨b, k, none⟩ = some (.int .i64 (lnI l k : Int)) := by rw [← dpB_here E n l k]; exact (hin2.2 k hlt).1
          have hm2 := (hin2.2 k hlt).2
          have hbd := pwV_bd Hroom.out hlt
          clear hin hbx2
          by_cases hq : lnI l k = l.length
          · have hq1 : ((lnI l k : Int) == (l.length : Int)) = true := by simp [hq]
            by_cases hp : pwV E n k = -1
            · have Hin : Hid (InAt w2 b n (fun i => dpB E n l (k + 1) i)) := hin2.congr (fun i _ => dpB_keep Hroom.out hlt (Or.inr hp) i)
              rw [hp]
              rw [hq] at hm1
              clear hin2 hq1 hp hbd
              go_wp2
              go_roundw
              case rel => exact ⟨k + 1, by omega, by go_num, Hin.out, hB2⟩
              case measure => simp [intOf]; omega
            · obtain ⟨q, hqq⟩ : ∃ q : Nat, pwV E n k = (q : Int) := ⟨(pwV E n k).toNat, by omega⟩
              have hqk : q < k := by omega
              have hqn : q < n := by omega
              have hm3 : w2.cell? ⟨b, q, none⟩ = some (.int .i64 (dpB E n l k q)) := (hin2.2 q hqn).1
              have Hin : Hid (InAt (w2.setCell ⟨b, k, none⟩ (.int .i64 (dpB E n l k q))) b n (fun i => dpB E n l (k + 1) i)) := (hin2.set hlt _).congr (fun i _ => dpB_take Hroom.out hlt hq hqq i)
              rw [hqq]
              rw [hq] at hm1
              have hne : ((q : Int) != -1) = true := by simp
              generalize dpB E n l k q = z at *
              clear hin2 hq1 hp hbd hqq
              go_wp2
              go_roundw
              case rel => exact ⟨k + 1, by omega, by go_num, Hin.out, hB2.setCell hbs _⟩
              case measure => simp [intOf]; omega
          · have Hin : Hid (InAt w2 b n (fun i => dpB E n l (k + 1) i)) := hin2.congr (fun i _ => dpB_keep Hroom.out hlt (Or.inl hq) i)
            have hq1 : ((lnI l k : Int) == (l.length : Int)) = false := by simp; omega
            generalize pwV E n k = z at *
            generalize lnI l k = y at *
            clear hin2
            go_wp2
            go_roundw
            case rel => exact ⟨k + 1, by omega, by go_num, Hin.out, hB2⟩
            case measure => simp [intOf]; omega
        · have hkn : k = n := by omega
          subst hkn
          go_wp2
          go_ret
          exact ⟨_, rfl, by omega, hin.congr (fun i hi => dpB_all E _ l hi), hbw⟩
end Go.Proofs.YtdapefcnmhbgkaaGreat
