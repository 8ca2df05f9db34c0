/-
  spec's l5Grant and l5ByGrants.
-/
import Derived.Test.YtfjfhnjoghlbfaaGreatLvP
import Derived.Test.YtfjfhnjoghlbfaaGreatRmB
namespace Go.Proofs.YtfjfhnjoghlbfaaGreat
open Go.RowKit

def gAns (o : Option Int) : Value := .tuple #[.int .i64 (o.getD 0), .bool o.isSome]

set_option maxRecDepth 100000 in
theorem l5Gr_zero (a : Option Addr) (cap : Nat) (M : Nat → ByteArray) (L : Nat → Int) (name : ByteArray) (w : World) :
    Calls Tryz.prog 100 #[.slice a 0 cap, .string name] w fun e w' => e = .returned (gAns (gV M L name 0)) ∧ w' = w := by
  go_enter Tryz.func100, Tryz.ntmps100
  go_wp2
  refine wp_loop_rounds 1 ?_
  rw [rounds_succ]
  go_wp2
  refine bodyPost_ret (v := .tuple #[.int .i64 0, .bool false]) (by simp [results, Tryz.results100, go_sem]) rfl ⟨rfl, rfl⟩

set_option maxRecDepth 100000 in
set_option maxHeartbeats 1000000 in
theorem l5Gr_any (b off n cap : Nat) (M : Nat → ByteArray) (L : Nat → Int) (name : ByteArray) (w : World) (hn : n ≤ maxLen) (h1 : ∀ i, i < n → w.cell? ⟨b, off + i * 2, none⟩ = some (.string (M i))) (h2 : ∀ i, i < n → w.cell? ⟨b, off + i * 2 + 1, none⟩ = some (.int .i64 (L i))) :
    Calls Tryz.prog 100 #[.slice (some ⟨b, off, none⟩) n cap, .string name] w fun e w' => e = .returned (gAns (gV M L name n)) ∧ w' = w := by
  unfold maxLen at hn
  have H1 : Hid (_) := h1
  have H2 : Hid (_) := h2
  clear h1 h2
  go_enter Tryz.func100, Tryz.ntmps100
  go_wp2
  go_loop [6] (fun i => ∃ k : Nat, k ≤ n ∧ i = .int .i64 k ∧ Hid (∀ i, i < k → ((M i).toList == name.toList) = false)) (fun i => n - (intOf i).toNat)
  case atStart => exact ⟨0, Nat.zero_le _, rfl, fun i hi => absurd hi (Nat.not_lt_zero _)⟩
  case round =>
    obtain ⟨k, hk, rfl, hto⟩ := hrel
    by_cases hlt : k < n
    · have c1 := H1.out k hlt
      have c2 := H2.out k hlt
      cases hq : ((M k).toList == name.toList)
      case true =>
        have Hh : Hid (gAns (gV M L name n) = .tuple #[.int .i64 (L k), .bool true]) := by unfold Hid; rw [gV_hit hto.out hq hlt]; rfl
        clear hto
        go_wp2
        refine bodyPost_ret (v := .tuple #[.int .i64 (L k), .bool true]) (by simp [results, Tryz.results100, go_sem]) rfl ⟨by rw [Hh.out], rfl⟩
      case false =>
        have Hto : Hid (∀ i, i < k + 1 → ((M i).toList == name.toList) = false) := fun i hi => by
          by_cases e : i = k
          · subst e; exact hq
          · exact hto.out i (by omega)
        clear hto
        go_wp2
        go_round
        case rel => exact ⟨k + 1, by omega, by go_num, Hto⟩
        case measure => simp [intOf]; omega
    · have hkn : k = n := by omega
      subst hkn
      have Hh : Hid (gAns (gV M L name k) = .tuple #[.int .i64 0, .bool false]) := by unfold Hid; rw [gV_none hto.out]; rfl
      clear hto
      go_wp2
      refine bodyPost_ret (v := .tuple #[.int .i64 0, .bool false]) (by simp [results, Tryz.results100, go_sem]) rfl ⟨by rw [Hh.out], rfl⟩
theorem l5Gr_sl {a : Option Addr} {n cap : Nat} {M : Nat → ByteArray} {L : Nat → Int} (name : ByteArray) (w : World) (h : SlG w a n cap M L) :
    Calls Tryz.prog 100 #[.slice a n cap, .string name] w fun e w' => e = .returned (gAns (gV M L name n)) ∧ w' = w := by
  rcases h.cells with rfl | ⟨b, off, rfl, hb, h1, h2⟩
  · exact l5Gr_zero a cap M L name w
  · exact l5Gr_any b off n cap M L name w (Nat.le_trans h.le h.max) h1 h2

set_option maxRecDepth 100000 in
set_option maxHeartbeats 1000000 in
theorem l5By_sl {a : Option Addr} {cap : Nat} {e0 : Ev} (user : ByteArray) (w : World) (h : SlG w a e0.ng cap e0.M e0.L) :
    Calls Tryz.prog 93 #[.slice a e0.ng cap, .string user] w fun e w' => e = .returned (.int .i64 (byG e0 user)) ∧ w' = w := by
  have Hb : Hid (∀ o, o = gV e0.M e0.L user e0.ng → byG e0 user = match o with | some v => v | none => (gV e0.M e0.L ⟨#[42, 100, 101, 102, 97, 117, 108, 116]⟩ e0.ng).getD 0) := fun o ho => by subst ho; rfl
  have HG : Hid (∀ W name, W = w → Calls Tryz.prog 100 #[.slice a e0.ng cap, .string name] W fun e w' => e = .returned (gAns (gV e0.M e0.L name e0.ng)) ∧ w' = W) := fun W name hW => by subst hW; exact l5Gr_sl name W h
  cases ho : gV e0.M e0.L user e0.ng with
  | some v =>
    have hv := Hb.out _ ho.symm
    simp only at hv
    have Hv : Hid (_ = _) := hv
    clear hv
    go_enter Tryz.func93, Tryz.ntmps93
    go_wp2_with fail
    refine (HG.out _ _ rfl).mono ?_
    rintro e w1 ⟨rfl, rfl⟩
    rw [ho]
    unfold gAns
    simp only [Option.getD_some, Option.isSome_some]
    go_wp2
    go_ret
    exact ⟨ret_int Hv.out.symm, rfl⟩
  | none =>
    have hv := Hb.out _ ho.symm
    simp only at hv
    have Hv : Hid (_ = _) := hv
    clear hv
    go_enter Tryz.func93, Tryz.ntmps93
    go_wp2_with fail
    refine (HG.out _ _ rfl).mono ?_
    rintro e w1 ⟨rfl, rfl⟩
    rw [ho]
    unfold gAns
    simp only [Option.getD_none, Option.isSome_none]
    go_wp2_with fail
    refine (HG.out _ _ rfl).mono ?_
    rintro e w2 ⟨rfl, rfl⟩
    unfold gAns
    go_wp2
    go_ret
    exact ⟨ret_int Hv.out.symm, rfl⟩
end Go.Proofs.YtfjfhnjoghlbfaaGreat
