import Derived.Test.YtpmebojkkjlkgaaGreatOwnLZ
import Derived.Maps.OwnSet
namespace Go.Proofs.YtpmebojkkjlkgaaGreat
open Go.RowKit Go.Maps Go.ChangeMaps
theorem lawStr : Keyed Tryz.prog 9 := string_keyed Tryz.underlying9
theorem zeroInt (w : World) : (zeroValue 3).run Tryz.prog w = .ok (.int .i64 0) w := by kernel_rfl
abbrev keyL (s : ByteArray) : Lit := .string s.data.toList
theorem keyL_ne {s t : ByteArray} (h : s ≠ t) : keyL s ≠ keyL t := fun e => h (by
 injection e with e
 obtain ⟨s⟩ := s; obtain ⟨t⟩ := t
 exact congrArg _ (Array.toList_inj.1 e))
def MapAt (w : World) (m n : Nat) (Kn : ByteArray -> Bool) (V : ByteArray -> Int) : Prop :=
 ∃ D : DataW Unit, w.ownsMap Tryz.prog 9 (plainElem Tryz.prog 3) m n D ∧ ∀ s : ByteArray, has D (keyL s) = Kn s ∧ (Kn s = true -> D.atKey (keyL s) (.lit (.int .i64 0)) = .lit (.int .i64 (V s)))
theorem MapAt.lt {w : World} {m n : Nat} {Kn : ByteArray -> Bool} {V : ByteArray -> Int} (h : MapAt w m n Kn V) : m < w.heap.size := by
 obtain ⟨D, h, _⟩ := h; exact h.lt
theorem MapAt.kept {w w' : World} {m n : Nat} {Kn : ByteArray -> Bool} {V : ByteArray -> Int} (h : MapAt w m n Kn V) (hb : w'.heap[m]? = w.heap[m]?) : MapAt w' m n Kn V := by
 obtain ⟨D, ⟨es, clock, h1, r⟩, h2⟩ := h
 exact ⟨D, ⟨es, clock, hb.trans h1, r⟩, h2⟩
theorem MapAt.below {w w' : World} {m n : Nat} {Kn : ByteArray -> Bool} {V : ByteArray -> Int} (h : MapAt w m n Kn V) (hb : Below w.heap.size w w') : MapAt w' m n Kn V := h.kept (hb.block m h.lt)
theorem MapAt.set {w : World} {m n C j : Nat} {Kn : ByteArray -> Bool} {V : ByteArray -> Int} (h : MapAt w m n Kn V) (hC : m ≠ C) (x : Value) : MapAt (w.setCell ⟨C, j, none⟩ x) m n Kn V := by
 obtain ⟨D, h1, h2⟩ := h
 exact ⟨D, h1.setCell (by exact hC) _, h2⟩
theorem MapAt.made (w : World) : MapAt (w.alloc (.map #[] 0)) w.heap.size 0 (fun _ => false) (fun _ => 0) :=
 ⟨.map [], World.ownsMap_made w _ _ _, fun s => ⟨rfl, fun h => by cases h⟩⟩
theorem MapAt.congr {w : World} {m n : Nat} {Kn Kn' : ByteArray -> Bool} {V V' : ByteArray -> Int} (h : MapAt w m n Kn V) (hK : ∀ s, Kn s = Kn' s) (hV : ∀ s, Kn' s = true -> V s = V' s) : MapAt w m n Kn' V' := by
 obtain ⟨D, h1, h2⟩ := h
 refine ⟨D, h1, fun s => ⟨(h2 s).1.trans (hK s), fun hs => ?_⟩⟩
 rw [(h2 s).2 ((hK s).trans hs), hV s hs]
theorem mapAt_put {w : World} {m n : Nat} {D : DataW Unit} {Kn : ByteArray -> Bool} {V : ByteArray -> Int} {k : ByteArray} {x : Int} (hD : IsMap D)
  (hown : w.ownsMap Tryz.prog 9 (plainElem Tryz.prog 3) m (n + 1) (D.put (keyL k) (.lit (.int .i64 x))))
  (h2 : ∀ s : ByteArray, has D (keyL s) = Kn s ∧ (Kn s = true -> D.atKey (keyL s) (.lit (.int .i64 0)) = .lit (.int .i64 (V s)))) :
  MapAt w m (n + 1) (fun s => decide (s = k) || Kn s) (fun s => if s = k then x else V s) := by
 refine ⟨_, hown, fun s => ?_⟩
 by_cases e : s = k
 ·subst e
  exact ⟨by rw [has_put_same hD (k := keyL s) trivial]; simp, fun _ => by rw [atKey_put_same hD (k := keyL s) trivial]; simp⟩
 ·refine ⟨by rw [has_put_other (keyL_ne e), (h2 s).1]; simp [e], fun hs => ?_⟩
  have hs' : Kn s = true := by simpa [e] using hs
  rw [atKey_put_other (keyL_ne e), (h2 s).2 hs']; simp [e]
def allTo (Kn : ByteArray -> Bool) (S : Nat -> ByteArray) : Nat -> Bool
 | 0 => true
 | n + 1 => allTo Kn S n && Kn (S n)
theorem allTo_le (Kn : ByteArray -> Bool) (S : Nat -> ByteArray) : ∀ n k, k < n -> Kn (S k) = false -> allTo Kn S n = false
 | 0, _, h, _ => absurd h (Nat.not_lt_zero _)
 | n + 1, k, h, e => by
  unfold allTo
  by_cases hk : k = n
  ·subst hk; rw [e]; simp
  ·rw [allTo_le Kn S n k (by omega) e]; rfl
def FindPost (w : World) (Kn : ByteArray -> Bool) (V : ByteArray -> Int) (S : Nat -> ByteArray) (k : Nat) (e : Ending) (w' : World) : Prop :=
 Below w.heap.size w w' ∧ ((allTo Kn S k = true ∧ ∃ v, e = .returned (.tuple #[v, .bool true]) ∧ OwnI w' w.heap.size v k (fun i => V (S i))) ∨ (allTo Kn S k = false ∧ e = .returned (.tuple #[.slice none 0 0, .bool false])))
theorem make_find (n : Nat) (h : n * 8 <= 140737488351232) (W : World) :
  (Instr.makeSlice 36 (.int .i64 0) (.int .i64 (n : Int))).run Tryz.prog W = .ok (.slice (some ⟨W.heap.size, 0, none⟩) 0 n) (W.alloc (.cells (madeCells #[.int .i64 0] n) 3)) := by
 obtain ⟨i0, hi, hz0, hz1, hz2⟩ := info_parts Tryz.infoIntO
 have := run_make (P := Tryz.prog) W 36 3 i0 (.int .i64 0) Tryz.underlying36 hi hz0 .i64 .i64 0 (n : Int) (by omega) (by omega) (by rw [hz2]; omega) (by omega)
 rw [this, hz1]
 simp [Value.cells]
set_option maxHeartbeats 1600000 in
theorem find_zero (m : Nat) (Kn : ByteArray -> Bool) (V : ByteArray -> Int) (S : Nat -> ByteArray) (a : Option Addr) (cap : Nat) (w : World) :
  Calls Tryz.prog 31 #[.map (some m), .slice a 0 cap] w (FindPost w Kn V S 0) := by
 have hmk := make_find 0 (by decide) w
 simp only [Int.ofNat_zero] at hmk
 go_enter Tryz.func31, Tryz.ntmps31
 go_wp2
 clear hmk
 refine wp_loop_rounds 1 ?_
 rw [rounds_succ]
 go_wp2
 refine bodyPost_ret (v := .tuple #[.slice (some ⟨w.heap.size, 0, none⟩) 0 0, .bool true]) (by simp [results, Tryz.results31, go_sem]) rfl ⟨(Below.refl _ _).alloc (Nat.le_refl _) _, Or.inl ⟨rfl, _, rfl, OwnI.made w _ 0 _ (by decide) (size_madeCells _ _) (Nat.le_refl _) _⟩⟩
set_option maxHeartbeats 1600000 in
theorem find_any (m n : Nat) (Kn : ByteArray -> Bool) (V : ByteArray -> Int) (S : Nat -> ByteArray) (b off k cap : Nat) (w : World) (hm : MapAt w m n Kn V) (hk : k <= 1048576) (hb : b < w.heap.size)
  (hs : ∀ i, i < k -> (S i).size <= maxLen) (hc : ∀ i, i < k -> w.cell? ⟨b, off + i, none⟩ = some (.string (S i))) :
  Calls Tryz.prog 31 #[.map (some m), .slice (some ⟨b, off, none⟩) k cap] w (FindPost w Kn V S k) := by
 obtain ⟨i0, hi, hz0, hz1, hz2⟩ := info_parts Tryz.infoIntO
 have hmk := make_find k (by omega) w
 go_enter Tryz.func31, Tryz.ntmps31
 go_wp2
 clear hmk
 go_loopw [6, 16] (fun v i wr => ∃ j : Nat, j <= k ∧ i = .int .i64 j ∧ Hid (allTo Kn S j = true) ∧ OwnI wr w.heap.size v j (fun i => V (S i)) ∧ Below w.heap.size w wr) (fun _ i _ => k - (intOf i).toNat)
 case atStart => exact ⟨0, Nat.zero_le _, rfl, rfl, OwnI.made w _ k _ (by unfold maxLen; omega) (size_madeCells _ _) (Nat.le_refl _) _, (Below.refl _ _).alloc (Nat.le_refl _) _⟩
 case round =>
  obtain ⟨j, hj, rfl, hall, hown, hbel⟩ := hrel
  by_cases hlt : j < k
  ·obtain ⟨D, hD, hK⟩ := hm.below hbel
   have hck : wr.cell? ⟨b, off + j, none⟩ = some (.string (S j)) := (hbel.cell (by exact hb)).trans (hc j hlt)
   have hkey : keyOf Tryz.prog 9 (.string (S j)) = some (.string (S j).data.toList) := Go.WideMaps.keyOf_string_mk Tryz.underlying9 (hs j hlt)
   have hhas : has D (.string (S j).data.toList) = Kn (S j) := (hK (S j)).1
   have hat0 : Hid (Kn (S j) = true -> D.atKey (.string (S j).data.toList) (.lit (.int .i64 0)) = .lit (.int .i64 (V (S j)))) := (hK (S j)).2
   have hm1 : j + 1 <= maxLen := by unfold maxLen; omega
   have hm2 : (j + 1) * 8 <= 140737488355328 := by omega
   have hag : ∀ q, u6.ownBlock = some q -> w.heap.size <= q := fun q hq => (World.ownsRow.lt hown q hq).1
   have hm3 : ∀ o, w.heap.size <= (wr.alloc o).heap.size := fun o => by have := hbel.size; simp; omega
   clear hK
   cases hkn : Kn (S j)
   ·rw [hkn] at hhas
    have hv : Hid (allTo Kn S k = false) := allTo_le Kn S k j hlt hkn
    go_wp2_with (at_lookup; refine wpList_lookup_own_ok_int _ rfl _ _ 53 rfl 9 3 .i64 lawStr Tryz.underlying53 Tryz.underlying3 (zeroInt _) m n D rfl hD _ _ rfl hkey ?_; intro c hat hwc; rw [hhas])
    refine bodyPost_ret (v := .tuple #[.slice none 0 0, .bool false]) (by simp [results, Tryz.results31, go_sem]) rfl ⟨hbel, Or.inr ⟨hv.out, rfl⟩⟩
   ·rw [hkn] at hhas
    have hall2 : Hid (allTo Kn S (j + 1) = true) := by unfold Hid allTo; rw [hall.out, hkn]; rfl
    have hat1 := hat0.out hkn
    go_wp2_with (first
     | (at_lookup; refine wpList_lookup_own_ok_int _ rfl _ _ 53 rfl 9 3 .i64 lawStr Tryz.underlying53 Tryz.underlying3 (zeroInt _) m n D rfl hD _ _ rfl hkey ?_; intro c hat hwc; rw [hhas]; have hcv : Hid (c = V (S j)) := by (have := hat.symm.trans hat1; simpa [Hid] using this))
     | (at_builtin; refine wpList_append_own _ rfl _ _ 36 rfl w.heap.size 3 i0 (.int .i64 0) 1 8 Tryz.underlying36 hi hz0 hz1 hz2 rfl (by decide) _ _ _ rfl (World.ownsRow.alloc hown _) ⟨wr.heap.size, 0, none⟩ 1 1 [.int .i64 c] rfl rfl (one_cellsI _ _ _) (one_oneI _) hm1 hm2 (hm3 _) ?_; intro v2 w2 hown2 hgrow2 _))
    go_roundw
    case rel => exact ⟨j + 1, by omega, by go_num, hall2, OwnI.snoc hown2 hcv.out, (hbel.alloc hbel.size _).grown hgrow2 (hm3 _) hag⟩
    case measure => simp [intOf]; omega
  ·have hjk : j = k := by omega
   subst hjk
   go_wp2
   refine bodyPost_ret (v := .tuple #[u6, .bool true]) (by simp [results, Tryz.results31, go_sem]) rfl ⟨hbel, Or.inl ⟨hall.out, _, rfl, hown⟩⟩
theorem find_sl {m n : Nat} {Kn : ByteArray -> Bool} {V : ByteArray -> Int} {S : Nat -> ByteArray} {a : Option Addr} {k cap : Nat} (w : World) (hm : MapAt w m n Kn V) (hk : k <= 1048576) (hs : SlS w a k cap S) :
  Calls Tryz.prog 31 #[.map (some m), .slice a k cap] w (FindPost w Kn V S k) := by
 rcases hs.cells with rfl | ⟨b, off, rfl, hb, hc⟩
 ·exact find_zero m Kn V S a cap w
 ·exact find_any m n Kn V S b off k cap w hm hk hb hs.size hc
theorem knows_sl {m n : Nat} {Kn : ByteArray -> Bool} {V : ByteArray -> Int} {S : Nat -> ByteArray} {a : Option Addr} {k cap : Nat} (w : World) (hm : MapAt w m n Kn V) (hk : k <= 1048576) (hs : SlS w a k cap S) :
  Calls Tryz.prog 49 #[.map (some m), .slice a k cap] w fun e w' => e = .returned (.bool (allTo Kn S k)) ∧ Below w.heap.size w w' := by
 go_enter Tryz.func49, Tryz.ntmps49
 go_wp2_with fail
 refine (find_sl w hm hk hs).mono ?_
 rintro e w1 ⟨hb1, hpost⟩
 rcases hpost with ⟨ht, v, rfl, _⟩ | ⟨hf, rfl⟩
 ·have hv : Hid (true = allTo Kn S k) := ht.symm
  clear ht
  go_wp2
  go_ret
  exact ⟨ret_bool hv.out, hb1⟩
 ·have hv : Hid (false = allTo Kn S k) := hf.symm
  clear hf
  go_wp2
  go_ret
  exact ⟨ret_bool hv.out, hb1⟩
def begB (size : Nat) (e : Ev) : Bool :=
 if size = 0 then e.ty.toList == [99, 114, 101, 97, 116, 101] else !(e.ty.toList == [99, 114, 101, 97, 116, 101]) && (decide (0 < e.np) && decide (0 < e.na))
def insC (Kn : ByteArray -> Bool) (size : Nat) (e : Ev) : Int :=
 if e.code ≠ 0 then e.code
 else if Kn e.id = true then 6
 else if allTo Kn e.Pv e.np = false ∨ allTo Kn e.Av e.na = false then 7
 else if begB size e = false then 8
 else if 300 <= size then 9
 else 0
theorem insC1 {Kn : ByteArray -> Bool} {size : Nat} {e : Ev} (h : e.code ≠ 0) : insC Kn size e = e.code := by rw [insC, if_pos h]
theorem insC6 {Kn : ByteArray -> Bool} {size : Nat} {e : Ev} (h : e.code = 0) (h6 : Kn e.id = true) : insC Kn size e = 6 := by rw [insC, if_neg (by simp [h]), if_pos h6]
theorem insC7 {Kn : ByteArray -> Bool} {size : Nat} {e : Ev} (h : e.code = 0) (h6 : Kn e.id = false) (h7 : allTo Kn e.Pv e.np = false ∨ allTo Kn e.Av e.na = false) : insC Kn size e = 7 := by
 rw [insC, if_neg (by simp [h]), if_neg (by simp [h6]), if_pos h7]
theorem insC8 {Kn : ByteArray -> Bool} {size : Nat} {e : Ev} (h : e.code = 0) (h6 : Kn e.id = false) (h7 : allTo Kn e.Pv e.np = true) (h7' : allTo Kn e.Av e.na = true) (h8 : begB size e = false) : insC Kn size e = 8 := by
 rw [insC, if_neg (by simp [h]), if_neg (by simp [h6]), if_neg (by simp [h7, h7']), if_pos h8]
theorem insC9 {Kn : ByteArray -> Bool} {size : Nat} {e : Ev} (h : e.code = 0) (h6 : Kn e.id = false) (h7 : allTo Kn e.Pv e.np = true) (h7' : allTo Kn e.Av e.na = true) (h8 : begB size e = true) (h9 : 300 <= size) : insC Kn size e = 9 := by
 rw [insC, if_neg (by simp [h]), if_neg (by simp [h6]), if_neg (by simp [h7, h7']), if_neg (by simp [h8]), if_pos h9]
theorem insC0 {Kn : ByteArray -> Bool} {size : Nat} {e : Ev} (h : e.code = 0) (h6 : Kn e.id = false) (h7 : allTo Kn e.Pv e.np = true) (h7' : allTo Kn e.Av e.na = true) (h8 : begB size e = true) (h9 : ¬ 300 <= size) : insC Kn size e = 0 := by
 rw [insC, if_neg (by simp [h]), if_neg (by simp [h6]), if_neg (by simp [h7, h7']), if_neg (by simp [h8]), if_neg h9]
theorem code_refs {e : Ev} (h : e.code = 0) : e.np <= 10 ∧ e.na <= 10 := by
 unfold Ev.code evCode at h
 split at h; · cases h
 split at h; · cases h
 split at h; · cases h
 split at h; · cases h
 rename_i h4
 constructor
 ·rcases Nat.lt_or_ge 10 e.np with h' | h'
  ·exact absurd (Or.inl (by unfold refsB; rw [decide_eq_false (by omega)]; rfl)) h4
  ·exact h'
 ·rcases Nat.lt_or_ge 10 e.na with h' | h'
  ·exact absurd (Or.inr (by unfold refsB; rw [decide_eq_false (by omega)]; rfl)) h4
  ·exact h'
abbrev evCs (e : Ev) (pa : Option Addr) (cp : Nat) (aa : Option Addr) (ca : Nat) (ga : Option Addr) (cg : Nat) : Array Value :=
 #[.string e.id, .string e.sd, .string e.ty, .bool e.st, .string e.key, .int .i64 e.tm, .slice pa e.np cp, .slice aa e.na ca, .string e.val, .slice ga e.ng cg]
set_option maxHeartbeats 1000000 in
theorem beg_any (size : Nat) (e : Ev) (pa : Option Addr) (cp : Nat) (aa : Option Addr) (ca : Nat) (ga : Option Addr) (cg : Nat) (w : World) (hp : e.np <= 10) :
  Calls Tryz.prog 50 #[.int .i64 size, e.val' pa cp aa ca ga cg] w fun x w' => x = .returned (.bool (begB size e)) ∧ Below w.heap.size w w' := by
 have hb0 : ∀ o, Below w.heap.size w (w.alloc o) := fun o => (Below.refl _ _).alloc (Nat.le_refl _) _
 by_cases h0 : size = 0
 ·subst h0
  have hv : Hid ((e.ty.toList == [99, 114, 101, 97, 116, 101]) = begB 0 e) := rfl
  go_enter Tryz.func50, Tryz.ntmps50
  go_wp2
  go_ret
  exact ⟨ret_bool hv.out, hb0 _⟩
 ·have hv : Hid (begB size e = (!(e.ty.toList == [99, 114, 101, 97, 116, 101]) && (decide (0 < e.np) && decide (0 < e.na)))) := by unfold Hid begB; rw [if_neg h0]
  cases ht : (e.ty.toList == [99, 114, 101, 97, 116, 101])
  ·by_cases hpp : 0 < e.np
   ·have hv2 : Hid (decide (0 < e.na) = begB size e) := by unfold Hid; rw [hv.out, ht, decide_eq_true hpp]; rfl
    go_enter Tryz.func50, Tryz.ntmps50
    go_wp2
    go_ret
    exact ⟨ret_bool hv2.out, hb0 _⟩
   ·have hv2 : Hid (false = begB size e) := by unfold Hid; rw [hv.out, ht, decide_eq_false hpp]; rfl
    have hnp : e.np = 0 := by omega
    go_enter Tryz.func50, Tryz.ntmps50
    go_wp2
    go_ret
    exact ⟨ret_bool hv2.out, hb0 _⟩
  ·have hv2 : Hid (false = begB size e) := by unfold Hid; rw [hv.out, ht]; rfl
   go_enter Tryz.func50, Tryz.ntmps50
   go_wp2
   go_ret
   exact ⟨ret_bool hv2.out, hb0 _⟩
end Go.Proofs.YtpmebojkkjlkgaaGreat
namespace Go.Proofs.YtpmebojkkjlkgaaGreat
open Go.RowKit
set_option maxHeartbeats 400000 in
theorem wordByte_any (c : Int) (w : World) :
  Calls Tryz.prog 99 #[.int .u8 c] w fun e w' => e = .returned (.bool (wbB c)) ∧ w' = w := by
 go_enter Tryz.func99, Tryz.ntmps99
 go_wp2
 all_goals (go_ret; exact ⟨ret_bool (by rw [Bool.eq_iff_iff]; simp [wbB] <;> omega), rfl⟩)
set_option maxHeartbeats 400000 in
theorem word_any (s : ByteArray) (w : World) (hs : s.size <= maxLen) :
  Calls Tryz.prog 72 #[.string s] w fun e w' => e = .returned (.bool (isW s)) ∧ w' = w := by
 unfold maxLen at hs
 go_enter Tryz.func72, Tryz.ntmps72
 go_wp2
 go_loop [3] (fun i => ∃ k : Nat, k <= s.size ∧ i = .int .i64 k ∧ Hid (((bts s).take k).all wbB = true)) (fun i => s.size - (intOf i).toNat)
 case atStart => exact ⟨0, Nat.zero_le _, rfl, rfl⟩
 case round =>
  obtain ⟨k, hk, rfl, hall⟩ := hrel
  by_cases hlt : k < s.size
  ·go_wp2_with (go_at_call 99; refine (wordByte_any _ _).mono ?_; rintro e w' ⟨rfl, rfl⟩)
   ·go_ret
    refine ⟨ret_bool ?_, rfl⟩
    rw [isW_of_take s k hlt (by simpa using (by assumption : (!wbB (s[k].toNat : Int)) = true))]
   ·go_round
    case rel => exact ⟨k + 1, by omega, by go_num, by unfold Hid; rw [all_take_succ s k hlt, hall.out]; simpa using (by assumption : (!wbB (s[k].toNat : Int)) = false)⟩
    case measure => simp [intOf]; omega
  ·go_wp2
   all_goals
    go_ret
    refine ⟨ret_bool ?_, rfl⟩
    rw [isW_of_all s (by rw [<- List.take_of_length_le (show (bts s).length <= k by rw [bts_len]; omega)]; exact hall.out)]
    rw [Bool.eq_iff_iff]; simp <;> omega
set_option maxHeartbeats 400000 in
theorem has_any (b off n cap : Nat) (S : Nat -> ByteArray) (s : ByteArray) (w : World) (hn : n <= maxLen)
  (hc : ∀ i, i < n -> w.cell? ⟨b, off + i, none⟩ = some (.string (S i))) :
  Calls Tryz.prog 34 #[.slice (some ⟨b, off, none⟩) n cap, .string s] w fun e w' => e = .returned (.bool (hasB S n s)) ∧ w' = w := by
 unfold maxLen at hn
 go_enter Tryz.func34, Tryz.ntmps34
 go_wp2
 go_loop [5] (fun i => ∃ k : Nat, k <= n ∧ i = .int .i64 k ∧ Hid (hasB S k s = false)) (fun i => n - (intOf i).toNat)
 case atStart => exact ⟨0, Nat.zero_le _, rfl, rfl⟩
 case round =>
  obtain ⟨k, hk, rfl, hall⟩ := hrel
  by_cases hlt : k < n
  ·have hck := hc k hlt
   go_wp2
   ·go_ret
    exact ⟨ret_bool (hasB_of S s n k hlt (by assumption)).symm, rfl⟩
   ·go_round
    case rel => exact ⟨k + 1, by omega, by go_num, by unfold Hid hasB; rw [hall.out]; simpa using (by assumption : ((S k).toList == s.toList) = false)⟩
    case measure => simp [intOf]; omega
  ·go_wp2
   go_ret
   refine ⟨ret_bool ?_, rfl⟩
   rw [show n = k by omega, hall.out]
set_option maxHeartbeats 1000000 in
theorem refsS_any (b off n cap : Nat) (S : Nat -> ByteArray) (id : ByteArray) (w : World) (hn : n <= cap) (hcap : cap <= maxLen)
  (hs : ∀ i, i < n -> (S i).size <= maxLen)
  (hc : ∀ i, i < n -> w.cell? ⟨b, off + i, none⟩ = some (.string (S i))) :
  Calls Tryz.prog 73 #[.slice (some ⟨b, off, none⟩) n cap, .string id] w fun e w' => e = .returned (.bool (refsB S n id)) ∧ Dr w w' := by
 have hcap2 := hcap
 unfold maxLen at hcap2
 by_cases h10 : n <= 10
 ·go_enter Tryz.func73, Tryz.ntmps73
  go_wp2
  go_loopw [5] (fun i wr => ∃ k : Nat, k <= n ∧ i = .int .i64 k ∧ Hid (refsTo S id k = true) ∧ Dr w wr) (fun i _ => n - (intOf i).toNat)
  case atStart => exact ⟨0, Nat.zero_le _, rfl, rfl, Dr.refl _⟩
  case round =>
   obtain ⟨k, hk, rfl, hall, hdr⟩ := hrel
   have hcr : ∀ i, i < n -> wr.cell? ⟨b, off + i, none⟩ = some (.string (S i)) := fun i hi => (hdr.cell _).trans (hc i hi)
   by_cases hlt : k < n
   ·have hck := hcr k hlt
    have hlen := hs k hlt
    cases h1 : isW (S k)
    ·go_wp2_with fail
     go_quiet ((go_at_call 72; exact Calls.quiet_of_same (word_any _ _ hlen)))
     go_wp2
     go_ret
     exact ⟨ret_bool (by rw [refsB, refsTo_le S id n k hlt (by unfold refsTo; rw [h1]; simp)]; simp), hdr.drewN _⟩
    ·cases h2 : ((S k).toList == id.toList)
     ·cases h3 : hasB S k (S k)
      ·go_wp2_with fail
       go_quiet ((first | (go_at_call 72; exact Calls.quiet_of_same (word_any _ _ hlen)) | (go_at_call 34; exact Calls.quiet_of_same (has_any b off k cap S _ _ (by omega) (fun i hi => hcr i (by omega))))))
       go_wp2
       go_roundw
       case rel => exact ⟨k + 1, by omega, by go_num, by unfold Hid refsTo; rw [hall.out, h1, h2, h3]; rfl, hdr.drewN _⟩
       case measure => simp [intOf]; omega
      ·go_wp2_with fail
       go_quiet ((first | (go_at_call 72; exact Calls.quiet_of_same (word_any _ _ hlen)) | (go_at_call 34; exact Calls.quiet_of_same (has_any b off k cap S _ _ (by omega) (fun i hi => hcr i (by omega))))))
       go_wp2
       go_ret
       exact ⟨ret_bool (by rw [refsB, refsTo_le S id n k hlt (by unfold refsTo; rw [h3]; simp)]; simp), hdr.drewN _⟩
     ·go_wp2_with fail
      go_quiet ((go_at_call 72; exact Calls.quiet_of_same (word_any _ _ hlen)))
      go_wp2
      go_ret
      exact ⟨ret_bool (by rw [refsB, refsTo_le S id n k hlt (by unfold refsTo; rw [h2]; simp)]; simp), hdr.drewN _⟩
   ·go_wp2
    go_ret
    refine ⟨ret_bool ?_, hdr⟩
    rw [refsB, show n = k by omega, hall.out]; simp; omega
 ·go_enter Tryz.func73, Tryz.ntmps73
  go_wp2
  go_ret
  exact ⟨ret_bool (by simp [refsB, h10]), Dr.refl _⟩
theorem bare_yes (s : ByteArray) (h : 0 < s.size) (h1 : (s[0].toNat : Int) = 42 ∨ ((s[0].toNat : Int) == 42) = true ∨ ((s[0].toNat : Int) == 35) = true) : bareS s = s.extract 1 s.size := by
 rw [bareS, starB_pos s h, if_pos]
 simp only [Bool.or_eq_true]
 rcases h1 with h1 | h1 | h1
 ·exact Or.inl (by simpa using h1)
 ·exact Or.inl h1
 ·exact Or.inr h1
theorem bare_no (s : ByteArray) (h : 0 < s.size) (h1 : ((s[0].toNat : Int) == 42) = false ∧ ((s[0].toNat : Int) == 35) = false) : bareS s = s := by
 rw [bareS, starB_pos s h, h1.1, h1.2]; simp
theorem bare_zero (s : ByteArray) (h : s.size = 0) : bareS s = s := by
 rw [bareS, starB_zero s h]; simp
set_option maxHeartbeats 400000 in
theorem nameS_any (s : ByteArray) (w : World) (hs : s.size <= maxLen) :
  Calls Tryz.prog 121 #[.string s] w fun e w' => e = .returned (.bool (nameB s)) ∧ w' = w := by
 have hs2 := hs
 unfold maxLen at hs2
 have hex : (s.extract 1 s.size).size <= maxLen := by rw [ByteArray.size_extract]; unfold maxLen; omega
 go_enter Tryz.func121, Tryz.ntmps121
 go_wp2_with fail
 ·refine (word_any _ _ hex).mono ?_
  rintro e w' ⟨rfl, rfl⟩
  go_wp2
  go_ret
  exact ⟨ret_bool (by rw [nameB, bare_yes s (by assumption) (Or.inl (by assumption))]), rfl⟩
 ·refine (word_any _ _ hex).mono ?_
  rintro e w' ⟨rfl, rfl⟩
  go_wp2
  go_ret
  exact ⟨ret_bool (by rw [nameB, bare_yes s (by assumption) (Or.inr (by assumption))]), rfl⟩
 ·refine (word_any _ _ hs).mono ?_
  rintro e w' ⟨rfl, rfl⟩
  go_wp2
  go_ret
  exact ⟨ret_bool (by rw [nameB, bare_no s (by assumption) (by assumption)]), rfl⟩
 ·refine (word_any _ _ hs).mono ?_
  rintro e w' ⟨rfl, rfl⟩
  have h0 : ¬ 0 < s.size := by assumption
  go_wp2
  go_ret
  exact ⟨ret_bool (by rw [nameB, bare_zero s (by omega)]), rfl⟩
set_option maxHeartbeats 1000000 in
theorem grS_any (b off n cap : Nat) (M : Nat -> ByteArray) (L : Nat -> Int) (w : World) (hn : n <= maxLen)
  (hs : ∀ i, i < n -> (M i).size <= maxLen)
  (hc : ∀ i, i < n -> w.cell? ⟨b, off + i * 2, none⟩ = some (.string (M i)))
  (hl : ∀ i, i < n -> w.cell? ⟨b, off + i * 2 + 1, none⟩ = some (.int .i64 (L i))) :
  Calls Tryz.prog 100 #[.slice (some ⟨b, off, none⟩) n cap] w fun e w' => e = .returned (.bool (grB M L n)) ∧ Dr w w' := by
 unfold maxLen at hn
 go_enter Tryz.func100, Tryz.ntmps100
 go_wp2
 go_loopw [3] (fun i wr => ∃ k : Nat, k <= n ∧ i = .int .i64 k ∧ Hid (grTo M L k = true) ∧ Dr w wr) (fun i _ => n - (intOf i).toNat)
 case atStart => exact ⟨0, Nat.zero_le _, rfl, rfl, Dr.refl _⟩
 case round =>
  obtain ⟨k, hk, rfl, hto, hdr⟩ := hrel
  by_cases hlt : k < n
  ·have hck : wr.cell? ⟨b, off + k * 2, none⟩ = some (.string (M k)) := (hdr.cell _).trans (hc k hlt)
   have hlk : wr.cell? ⟨b, off + k * 2 + 1, none⟩ = some (.int .i64 (L k)) := (hdr.cell _).trans (hl k hlt)
   have hlen := hs k hlt
   cases hnm : nameB (M k)
   ·go_wp2_with (go_at_call 121; refine (nameS_any _ _ hlen).mono ?_; rintro e w' ⟨rfl, rfl⟩)
    go_ret
    exact ⟨ret_bool (by rw [grB, grTo_le M L n k hlt (by rw [grTo, hnm]; simp)]; simp), hdr⟩
   by_cases h1 : L k < -1000000
   ·go_wp2_with (go_at_call 121; refine (nameS_any _ _ hlen).mono ?_; rintro e w' ⟨rfl, rfl⟩)
    go_ret
    exact ⟨ret_bool (by rw [grB, grTo_le M L n k hlt (by rw [grTo]; simp [h1])]; simp), hdr⟩
   by_cases h2 : 1000000 < L k
   ·go_wp2_with (go_at_call 121; refine (nameS_any _ _ hlen).mono ?_; rintro e w' ⟨rfl, rfl⟩)
    go_ret
    exact ⟨ret_bool (by rw [grB, grTo_le M L n k hlt (by rw [grTo]; simp [h2])]; simp), hdr⟩
   by_cases h0 : k = 0
   ·have hk0 : decide (0 < k) = false := by simp; omega
    have H0 : Hid (k = 0) := h0
    clear h0
    go_wp2_with (go_at_call 121; refine (nameS_any _ _ hlen).mono ?_; rintro e w' ⟨rfl, rfl⟩)
    go_quiet (fail)
    go_wp2
    go_roundw
    case rel => exact ⟨k + 1, by omega, by go_num, by unfold Hid; rw [grTo, hto.out, hnm, H0.out]; simp; rw [H0.out] at h1 h2; omega, hdr.drewN _⟩
    case measure => simp [intOf]; omega
   ·obtain ⟨j, rfl⟩ : ∃ j, k = j + 1 := ⟨k - 1, by omega⟩
    have hcp : wr.cell? ⟨b, off + j * 2, none⟩ = some (.string (M j)) := (hdr.cell _).trans (hc j (by omega))
    cases hL : Op.bytesLess (M j).toList (M (j + 1)).toList
    ·go_wp2_with (go_at_call 121; refine (nameS_any _ _ hlen).mono ?_; rintro e w' ⟨rfl, rfl⟩)
     go_quiet (fail)
     go_wp2
     go_ret
     exact ⟨ret_bool (by rw [grB, grTo_le M L n (j + 1) hlt (by rw [grTo, show j + 1 - 1 = j from rfl, hL]; simp)]; simp), hdr.drewN _⟩
    ·go_wp2_with (go_at_call 121; refine (nameS_any _ _ hlen).mono ?_; rintro e w' ⟨rfl, rfl⟩)
     go_quiet (fail)
     go_wp2
     go_roundw
     case rel => exact ⟨j + 1 + 1, by omega, by go_num, by unfold Hid; rw [grTo, hto.out, hnm, show j + 1 - 1 = j from rfl, hL]; simp; omega, hdr.drewN _⟩
     case measure => simp [intOf]; omega
  ·go_wp2
   go_ret
   refine ⟨ret_bool ?_, hdr⟩
   rw [grB, show n = k by omega, hto.out]
   simp only [Bool.true_and, decide_eq_decide]
   omega
theorem refsS_zero (a : Option Addr) (cap : Nat) (id : ByteArray) (w : World) :
  Calls Tryz.prog 73 #[.slice a 0 cap, .string id] w fun e w' => e = .returned (.bool true) ∧ w' = w := by
 go_enter Tryz.func73, Tryz.ntmps73
 go_wp2
 refine wp_loop_rounds 1 ?_
 rw [rounds_succ]
 go_wp2
 go_ret
 exact ⟨rfl, rfl⟩
theorem grS_zero (a : Option Addr) (cap : Nat) (w : World) :
  Calls Tryz.prog 100 #[.slice a 0 cap] w fun e w' => e = .returned (.bool true) ∧ w' = w := by
 go_enter Tryz.func100, Tryz.ntmps100
 go_wp2
 refine wp_loop_rounds 1 ?_
 rw [rounds_succ]
 go_wp2
 go_ret
 exact ⟨rfl, rfl⟩
theorem refsS_sl {a : Option Addr} {n cap : Nat} {S : Nat -> ByteArray} (id : ByteArray) (w : World) (h : SlS w a n cap S) :
  Calls Tryz.prog 73 #[.slice a n cap, .string id] w fun e w' => e = .returned (.bool (refsB S n id)) ∧ Dr w w' := by
 rcases h.cells with rfl | ⟨b, off, rfl, hb, hc⟩
 ·refine (refsS_zero a cap id w).mono ?_
  rintro e w' ⟨rfl, rfl⟩
  exact ⟨rfl, Dr.refl _⟩
 ·exact refsS_any b off n cap S id w h.le h.max h.size hc
theorem grS_sl {a : Option Addr} {n cap : Nat} {M : Nat -> ByteArray} {L : Nat -> Int} (w : World) (h : SlG w a n cap M L) :
  Calls Tryz.prog 100 #[.slice a n cap] w fun e w' => e = .returned (.bool (grB M L n)) ∧ Dr w w' := by
 rcases h.cells with rfl | ⟨b, off, rfl, hb, hc, hl⟩
 ·refine (grS_zero a cap w).mono ?_
  rintro e w' ⟨rfl, rfl⟩
  exact ⟨rfl, Dr.refl _⟩
 ·exact grS_any b off n cap M L w (Nat.le_trans h.le h.max) h.size hc hl
end Go.Proofs.YtpmebojkkjlkgaaGreat
