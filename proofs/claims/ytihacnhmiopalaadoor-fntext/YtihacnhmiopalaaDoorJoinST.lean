import Derived.Test.YtihacnhmiopalaaDoorSlZT
import Derived.Test.YtihacnhmiopalaaDoorProg
namespace Go.Proofs.YtihacnhmiopalaaDoor
open Go.RowKit
set_option maxHeartbeats 400000 in
theorem joinS_any (b off n cap : Nat) (S : Nat -> ByteArray) (sep : ByteArray) (w : World) (hn : n <= maxLen)
  (hsz : (joinB S sep n).size <= 140737488355328)
  (hc : ∀ i, i < n -> w.cell? ⟨b, off + i, none⟩ = some (.string (S i))) :
  Calls Tryd.prog 30 #[.slice (some ⟨b, off, none⟩) n cap, .string sep] w fun e w' => e = .returned (.string (joinB S sep n)) ∧ w' = w := by
 unfold maxLen at hn
 go_enter Tryd.func30, Tryd.ntmps30
 go_wp2
 go_loop [5, 6] (fun o i => ∃ k : Nat, k <= n ∧ i = .int .i64 k ∧ o = .string (joinB S sep k)) (fun _ i => n - (intOf i).toNat)
 case atStart => exact ⟨0, Nat.zero_le _, rfl, rfl⟩
 case round =>
  obtain ⟨k, hk, rfl, rfl⟩ := hrel
  by_cases hlt : k < n
  ·have hck := hc k hlt
   have hle := joinB_size_le S sep (n := n) (k := k + 1) (by omega)
   by_cases h0 : k = 0
   ·subst h0
    have hck : w.cell? ⟨b, off, none⟩ = some (.string (S 0)) := hck
    have hs0 : (S 0).size <= 140737488355328 := Nat.le_trans hle hsz
    have e0 : joinB S sep 0 ++ S 0 = S 0 := ByteArray.empty_append
    have hx : ¬ 9223372036854775807 < (joinB S sep 0).size + (S 0).size := by simp only [joinB, ByteArray.size_empty]; omega
    go_wp2
    go_round
    case rel => exact ⟨1, by omega, by go_num, rfl⟩
    case measure => simp [intOf]; omega
   ·have h0' : 0 < k := by omega
    have ej : joinB S sep (k + 1) = joinB S sep k ++ sep ++ S k := by rw [joinB, if_neg h0]
    have es : (joinB S sep k).size + sep.size + (S k).size <= 140737488355328 := by
     have : (joinB S sep (k + 1)).size = (joinB S sep k).size + sep.size + (S k).size := by rw [ej, ByteArray.size_append, ByteArray.size_append]
     omega
    have hx1 : ¬ 9223372036854775807 < (joinB S sep k).size + sep.size := by omega
    have hx2 : ¬ 9223372036854775807 < (joinB S sep k).size + sep.size + (S k).size := by omega
    go_wp2
    go_round
    case rel => exact ⟨k + 1, by omega, by go_num, by rw [ej]⟩
    case measure => simp [intOf]; omega
  ·go_wp2
   go_ret
   rw [show n = k by omega]
   exact ⟨rfl, rfl⟩
end Go.Proofs.YtihacnhmiopalaaDoor
