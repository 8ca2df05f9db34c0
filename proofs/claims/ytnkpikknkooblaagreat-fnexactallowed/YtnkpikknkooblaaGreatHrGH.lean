import Derived.Test.YtnkpikknkooblaaGreatHrAB
/-
  impl's mayRegrant.
-/
namespace Go.Proofs.YtnkpikknkooblaaGreat
open Go.RowKit Go.Maps Go.ChangeMaps

theorem Hr.gp {w : World} {h mb c : Nat} {F : Ent → Value} {oc op : Option Addr} {o : View} {e : Ev} {pa : Option Addr} {cp : Nat} {aa : Option Addr} {ca : Nat} {ga : Option Addr} {cg : Nat} (H : Hr w h mb c F oc op o e pa cp aa ca ga cg) {p : Ev} {qa : Option Addr} {qc : Nat} (hg : SlG w qa p.ng qc p.M p.L) (hp : o tPow tNil = some p) (s : ByteArray) : Hid (∀ W, Below w.heap.size w W → Calls Tryz.prog 117 #[.slice qa p.ng qc, .string s] W fun x w' => x = .returned (gAns (gV p.M p.L s p.ng)) ∧ Below w.heap.size w w') := fun W hW => (gf_sl s W (H.lev.asc p hp).1 (by have := (H.lev.asc p hp).2; omega) (hg.below hW)).mono fun _ _ ⟨h1, h2⟩ => ⟨h1, hW.trans (h2.below.mono hW.size)⟩
theorem Hr.ge {w : World} {h mb c : Nat} {F : Ent → Value} {oc op : Option Addr} {o : View} {e : Ev} {pa : Option Addr} {cp : Nat} {aa : Option Addr} {ca : Nat} {ga : Option Addr} {cg : Nat} (H : Hr w h mb c F oc op o e pa cp aa ca ga cg) (hi : isPow e = true) (s : ByteArray) : Hid (∀ W, Below w.heap.size w W → Calls Tryz.prog 117 #[.slice ga e.ng cg, .string s] W fun x w' => x = .returned (gAns (gV e.M e.L s e.ng)) ∧ Below w.heap.size w w') := fun W hW => (gf_sl s W (gr_asc H.code hi).2 (by have := (gr_asc H.code hi).1; omega) (H.ok.hg.below hW)).mono fun _ _ ⟨h1, h2⟩ => ⟨h1, hW.trans (h2.below.mono hW.size)⟩

set_option maxRecDepth 100000 in
set_option maxHeartbeats 3000000 in
theorem mayI {h mb c : Nat} {F : Ent → Value} {oc op : Option Addr} {o : View} {e : Ev} {pa : Option Addr} {cp : Nat} {aa : Option Addr} {ca : Nat} {ga : Option Addr} {cg : Nat} (w : World) (H : Hr w h mb c F oc op o e pa cp aa ca ga cg) {p : Ev} {pb po : Nat} {qa : Option Addr} {qc : Nat} (hop : op = some ⟨pb, po, none⟩) (_hpb : pb < w.heap.size) (hc9 : w.cell? ⟨pb, po + 9, none⟩ = some (.slice qa p.ng qc)) (hg : SlG w qa p.ng qc p.M p.L) (hp : o tPow tNil = some p) (hi : isPow e = true) (s : ByteArray) (hs : s.size ≤ maxLen) :
    Calls Tryz.prog 138 #[.pointer (some ⟨h, 0, none⟩), .string s] w fun x w' => x = .returned (.bool (rgN p e (lvO o e.sd) s)) ∧ Below w.heap.size w w' := by
  have hrf : Below w.heap.size w w := Below.refl _ _
  have k1 : w.cell? ⟨h, 1, none⟩ = some (.string e.sd) := H.ev.c1
  have k9 : w.cell? ⟨h, 9, none⟩ = some (.slice ga e.ng cg) := H.ev.c9
  have k12 : w.cell? ⟨h, 12, none⟩ = some (.pointer op) := H.c12
  have k13 : w.cell? ⟨h, 13, none⟩ = some (.int .i64 (lvO o e.sd)) := H.c13
  subst hop
  have hlt := H.lt
  have HP := H.gp hg hp s
  have HE := H.ge hi s
  have Hv : Hid (rgN p e (lvO o e.sd) s = rgB (gV p.M p.L s p.ng) (gV e.M e.L s e.ng) (lvO o e.sd) s e.sd) := rfl
  have HW : Hid (∀ (blk : Nat) (W : World), W.cell? ⟨blk, 0, none⟩ = some (.string s) → Calls Tryz.prog 57 #[.slice (some ⟨blk, 0, none⟩) 1 1] W fun x w' => x = .returned (.bool (isW s)) ∧ w' = W) := fun blk W hc => allWords_one blk s W hs hc
  clear H hg hp hi
  generalize rgN p e (lvO o e.sd) s = r at *
  generalize lvO o e.sd = own at *
  generalize gV p.M p.L s p.ng = A at *
  generalize gV e.M e.L s e.ng = B at *
  generalize hiw : isW s = iw at *
  have step : ∀ (a b : Int) (ha hb : Bool), A = (if ha then some a else none) → B = (if hb then some b else none) → (ha = false → a = 0) → (hb = false → b = 0) → Calls Tryz.prog 138 #[.pointer (some ⟨h, 0, none⟩), .string s] w fun x w' => x = .returned (.bool r) ∧ Below w.heap.size w w' := by
    intro a b ha hb hA hB ha0 hb0
    have EA : Hid (gAns A = .tuple #[.int .i64 a, .bool ha]) := by
      unfold Hid; rw [hA]; cases ha
      · rw [ha0 rfl]; rfl
      · rfl
    have EB : Hid (gAns B = .tuple #[.int .i64 b, .bool hb]) := by
      unfold Hid; rw [hB]; cases hb
      · rw [hb0 rfl]; rfl
      · rfl
    have HR0 : Hid (r = if (ha == hb) && decide (a = b) then true else if (ha && decide (own < a)) || (hb && decide (own < b)) then false else !(iw && !(s.toList == e.sd.toList) && ha && decide (own ≤ a))) := by
      unfold Hid; rw [Hv.out, hA, hB]; unfold rgB
      cases ha <;> cases hb <;> simp [ha0, hb0, hiw]
    have HR : Hid (r = if (ha == hb) && decide (a = b) then true else if (ha && decide (own < a)) || (hb && decide (own < b)) then false else !(iw && !(s.toList == e.sd.toList) && ha && !decide (a < own))) := by
      have hle : decide (own ≤ a) = !decide (a < own) := by
        by_cases h1 : a < own
        · rw [decide_eq_true h1, decide_eq_false (by omega)]; rfl
        · rw [decide_eq_false h1, decide_eq_true (by omega)]; rfl
      unfold Hid
      rw [HR0.out, hle]
    have HA0 : Hid (ha = false → a = 0) := ha0
    have HB0 : Hid (hb = false → b = 0) := hb0
    rw [EA.out] at HP
    rw [EB.out] at HE
    clear Hv EA EB hA hB ha0 hb0 HR0 hiw
    have HK1 : Hid (w.cell? ⟨pb, po + 9, none⟩ = some (.slice qa p.ng qc)) := hc9
    go_enter Tryz.func138, Tryz.ntmps138
    go_wp2_with fail
    refine (HP.out _ hrf).mono ?_
    rintro x w1 ⟨rfl, hb1⟩
    have q9 := (hb1.cell (by exact hlt)).trans k9
    clear HP hc9
    go_wp2_with fail
    refine (HE.out _ hb1).mono ?_
    rintro x w2 ⟨rfl, hb2⟩
    have s1 := (hb2.cell (by exact hlt)).trans k1
    have s13 := (hb2.cell (by exact hlt)).trans k13
    clear HE q9 k1 k9 k12 k13
    have hz1 : ((w2.alloc (.cells #[.string s] 9)).cell? ⟨w2.heap.size, 0, none⟩) = some (.string s) := World.cell?_alloc_at _ _ _ _ rfl
    have hb3 : Below w.heap.size w (w2.alloc (.cells #[.string s] 9)) := hb2.alloc hb2.size _
    have hlt2 : h < w2.heap.size := Nat.lt_of_lt_of_le hlt hb2.size
    have t1 : (w2.alloc (.cells #[.string s] 9)).cell? ⟨h, 1, none⟩ = some (.string e.sd) := (((Below.refl _ _).alloc (Nat.le_refl _) _).cell (by exact hlt2)).trans s1
    have t13 : (w2.alloc (.cells #[.string s] 9)).cell? ⟨h, 13, none⟩ = some (.int .i64 own) := (((Below.refl _ _).alloc (Nat.le_refl _) _).cell (by exact hlt2)).trans s13
    have hne : h ≠ w2.heap.size := by omega
    have HW2 : Hid (Calls Tryz.prog 57 #[.slice (some ⟨w2.heap.size, 0, none⟩) 1 1] (w2.alloc (.cells #[.string s] 9)) fun x w' => x = .returned (.bool iw) ∧ w' = (w2.alloc (.cells #[.string s] 9))) := HW.out _ _ hz1
    clear HW hz1 hb1
    cases ha <;> cases hb
    case false.false =>
      obtain rfl := HA0.out rfl
      obtain rfl := HB0.out rfl
      go_wp2
      go_ret
      exact ⟨ret_bool (by rw [HR.out]; rfl), hb2⟩
    case false.true =>
      cases hd2 : decide (own < b)
      case true =>
        go_wp2
        go_ret
        exact ⟨ret_bool (by rw [HR.out, hd2]; rfl), hb2⟩
      case false =>
        go_wp2_with fail
        refine HW2.out.mono ?_
        rintro x w3 ⟨rfl, rfl⟩
        cases iw <;> cases hsk : (s.toList == e.sd.toList) <;> cases hd3 : decide (a < own)
        all_goals
          go_wp2
          go_ret
          exact ⟨ret_bool (by rw [HR.out, hd2, hsk, hd3]; rfl), hb3⟩
    case true.false =>
      cases hd1 : decide (own < a)
      case true =>
        go_wp2
        go_ret
        exact ⟨ret_bool (by rw [HR.out, hd1]; rfl), hb2⟩
      case false =>
        go_wp2_with fail
        refine HW2.out.mono ?_
        rintro x w3 ⟨rfl, rfl⟩
        cases iw <;> cases hsk : (s.toList == e.sd.toList) <;> cases hd3 : decide (a < own)
        all_goals
          go_wp2
          go_ret
          exact ⟨ret_bool (by rw [HR.out, hd1, hsk, hd3]; rfl), hb3⟩
    case true.true =>
      by_cases hab : a = b
      · subst hab
        have hab' : decide (a = a) = true := decide_eq_true rfl
        go_wp2
        go_ret
        exact ⟨ret_bool (by rw [HR.out, hab']; rfl), hb2⟩
      · have hab1 : decide (a = b) = false := decide_eq_false hab
        have hab2 : (a == b) = false := by simpa using hab
        cases hd1 : decide (own < a)
        case true =>
          go_wp2
          go_ret
          exact ⟨ret_bool (by rw [HR.out, hab1, hd1]; rfl), hb2⟩
        case false =>
          cases hd2 : decide (own < b)
          case true =>
            go_wp2
            go_ret
            exact ⟨ret_bool (by rw [HR.out, hab1, hd1, hd2]; rfl), hb2⟩
          case false =>
            go_wp2_with fail
            refine HW2.out.mono ?_
            rintro x w3 ⟨rfl, rfl⟩
            cases iw <;> cases hsk : (s.toList == e.sd.toList) <;> cases hd3 : decide (a < own)
            all_goals
              go_wp2
              go_ret
              exact ⟨ret_bool (by rw [HR.out, hab1, hd1, hd2, hsk, hd3]; rfl), hb3⟩
  cases A with
  | none =>
    cases B with
    | none => exact step 0 0 false false rfl rfl (fun _ => rfl) (fun _ => rfl)
    | some y => exact step 0 y false true rfl rfl (fun _ => rfl) (fun h => nomatch h)
  | some x =>
    cases B with
    | none => exact step x 0 true false rfl rfl (fun h => nomatch h) (fun _ => rfl)
    | some y => exact step x y true true rfl rfl (fun h => nomatch h) (fun h => nomatch h)
end Go.Proofs.YtnkpikknkooblaaGreat
/-
  impl's rule regranting.
-/
namespace Go.Proofs.YtnkpikknkooblaaGreat
open Go.RowKit Go.Maps Go.ChangeMaps

set_option maxRecDepth 100000 in
set_option maxHeartbeats 1000000 in
theorem idxG_any (b off cap n : Nat) (M : Nat → ByteArray) (L : Nat → Int) (f : ByteArray → Bool) (bx : Nat) (w : World) (hn : n ≤ maxLen) (hb : b < w.heap.size)
    (HC : Hid (∀ W i, i < n → Below w.heap.size w W → Calls Tryz.prog 137 #[grV (M i) (L i), .pointer (some ⟨bx, 0, none⟩)] W fun x w' => x = .returned (.bool (!f (M i))) ∧ Below W.heap.size W w'))
    (h1 : ∀ i, i < n → w.cell? ⟨b, off + i * 2, none⟩ = some (.string (M i))) (h2 : ∀ i, i < n → w.cell? ⟨b, off + i * 2 + 1, none⟩ = some (.int .i64 (L i))) :
    Calls Tryz.prog 152 #[.slice (some ⟨b, off, none⟩) n cap, .func (.func 137) #[] #[.pointer (some ⟨bx, 0, none⟩)]] w fun x w' => ∃ z : Int, x = .returned (.int .i64 z) ∧ Hid (decide (0 ≤ z) = !evry (fun i => f (M i)) n) ∧ Below w.heap.size w w' := by
  unfold maxLen at hn
  go_enter Tryz.func152, Tryz.ntmps152
  go_wp2
  go_loopw [8] (fun i wr => ∃ k : Nat, k ≤ n ∧ i = .int .i64 k ∧ Hid (evry (fun i => f (M i)) k = true) ∧ Below w.heap.size w wr) (fun i _ => n - (intOf i).toNat)
  case atStart => exact ⟨0, Nat.zero_le _, rfl, rfl, Below.refl _ _⟩
  case round =>
    obtain ⟨k, hk, rfl, hto, hbel⟩ := hrel
    by_cases hlt : k < n
    · have a1 : wr.cell? ⟨b, off + k * 2, none⟩ = some (.string (M k)) := (hbel.cell (by exact hb)).trans (h1 k hlt)
      have a2 : wr.cell? ⟨b, off + k * 2 + 1, none⟩ = some (.int .i64 (L k)) := (hbel.cell (by exact hb)).trans (h2 k hlt)
      have HX : Hid (Calls Tryz.prog 137 #[grV (M k) (L k), .pointer (some ⟨bx, 0, none⟩)] wr fun x w' => x = .returned (.bool (!f (M k))) ∧ Below wr.heap.size wr w') := HC.out wr k hlt hbel
      clear h1 h2
      cases he : f (M k)
      case true =>
        have hto2 : Hid (evry (fun i => f (M i)) (k + 1) = true) := by unfold Hid; rw [evry, hto.out, he]; rfl
        rw [he] at HX
        go_wp2_with (go_at_call 137; refine (HX.out).mono ?_; rintro x w1 ⟨rfl, hb1⟩)
        go_roundw
        case rel => exact ⟨k + 1, by omega, by go_num, hto2, hbel.trans (hb1.mono hbel.size)⟩
        case measure => simp [intOf]; omega
      case false =>
        have hto2 : Hid (evry (fun i => f (M i)) n = false) := evry_le (fun i => f (M i)) n k hlt he
        rw [he] at HX
        go_wp2_with (go_at_call 137; refine (HX.out).mono ?_; rintro x w1 ⟨rfl, hb1⟩)
        go_ret
        exact ⟨(k : Int), rfl, by unfold Hid; rw [hto2.out]; simp, hbel.trans (hb1.mono hbel.size)⟩
    · have hkn : n = k := by omega
      have hto2 : Hid (evry (fun i => f (M i)) n = true) := by rw [hkn]; exact hto
      clear h1 h2 hto
      go_wp2
      go_ret
      exact ⟨-1, rfl, by unfold Hid; rw [hto2.out]; rfl, hbel⟩

set_option maxRecDepth 100000 in
theorem idxG_zero (a : Option Addr) (cap : Nat) (fv : Value) (w : World) :
    Calls Tryz.prog 152 #[.slice a 0 cap, fv] w fun x w' => x = .returned (.int .i64 (-1)) ∧ w' = w := by
  go_enter Tryz.func152, Tryz.ntmps152
  go_wp2
  refine wp_loop_rounds 1 ?_
  rw [rounds_succ]
  go_wp2
  go_ret
  exact ⟨rfl, rfl⟩

set_option maxRecDepth 100000 in
theorem cfG_sl {a : Option Addr} {n cap : Nat} {M : Nat → ByteArray} {L : Nat → Int} (f : ByteArray → Bool) (bx : Nat) (w : World) (h : SlG w a n cap M L)
    (HC : Hid (∀ W i, i < n → Below w.heap.size w W → Calls Tryz.prog 137 #[grV (M i) (L i), .pointer (some ⟨bx, 0, none⟩)] W fun x w' => x = .returned (.bool (!f (M i))) ∧ Below W.heap.size W w')) :
    Calls Tryz.prog 139 #[.slice a n cap, .func (.func 137) #[] #[.pointer (some ⟨bx, 0, none⟩)]] w fun x w' => x = .returned (.bool (!evry (fun i => f (M i)) n)) ∧ Below w.heap.size w w' := by
  have HI : Calls Tryz.prog 152 #[.slice a n cap, .func (.func 137) #[] #[.pointer (some ⟨bx, 0, none⟩)]] w fun x w' => ∃ z : Int, x = .returned (.int .i64 z) ∧ Hid (decide (0 ≤ z) = !evry (fun i => f (M i)) n) ∧ Below w.heap.size w w' := by
    rcases h.cells with rfl | ⟨b, off, rfl, hb, h1, h2⟩
    · refine (idxG_zero a cap _ w).mono ?_
      rintro x w' ⟨rfl, rfl⟩
      exact ⟨-1, rfl, rfl, Below.refl _ _⟩
    · exact idxG_any b off cap n M L f bx w (Nat.le_trans h.le h.max) hb HC h1 h2
  clear HC h
  go_enter Tryz.func139, Tryz.ntmps139
  go_wp2_with fail
  refine HI.mono ?_
  rintro x w1 ⟨z, rfl, hz, hb1⟩
  go_wp2
  go_ret
  exact ⟨ret_bool hz.out, hb1⟩

set_option maxRecDepth 100000 in
set_option maxHeartbeats 1000000 in
theorem cloI {h mb c : Nat} {F : Ent → Value} {oc op : Option Addr} {o : View} {e : Ev} {pa : Option Addr} {cp : Nat} {aa : Option Addr} {ca : Nat} {ga : Option Addr} {cg : Nat} (w : World) (H : Hr w h mb c F oc op o e pa cp aa ca ga cg) {p : Ev} {pb po : Nat} {qa : Option Addr} {qc : Nat} (hop : op = some ⟨pb, po, none⟩) (hpb : pb < w.heap.size) (hc9 : w.cell? ⟨pb, po + 9, none⟩ = some (.slice qa p.ng qc)) (hg : SlG w qa p.ng qc p.M p.L) (hp : o tPow tNil = some p) (hi : isPow e = true) {bx : Nat} (hbx : bx < w.heap.size) (hcx : w.cell? ⟨bx, 0, none⟩ = some (.pointer (some ⟨h, 0, none⟩))) (s : ByteArray) (lv : Int) (hs : s.size ≤ maxLen) :
    Calls Tryz.prog 137 #[grV s lv, .pointer (some ⟨bx, 0, none⟩)] w fun x w' => x = .returned (.bool (!rgN p e (lvO o e.sd) s)) ∧ Below w.heap.size w w' := by
  have hb0 : ∀ o, Below w.heap.size w (w.alloc o) := fun o => (Below.refl _ _).alloc (Nat.le_refl _) _
  have k0 : (w.alloc (.cells #[.string s, .int .i64 lv] 99)).cell? ⟨bx, 0, none⟩ = some (.pointer (some ⟨h, 0, none⟩)) := ((hb0 _).cell (by exact hbx)).trans hcx
  have hne : bx ≠ w.heap.size := by omega
  have HM : Hid (∀ W, Below w.heap.size w W → Calls Tryz.prog 138 #[.pointer (some ⟨h, 0, none⟩), .string s] W fun x w' => x = .returned (.bool (rgN p e (lvO o e.sd) s)) ∧ Below W.heap.size W w') := fun W hW => mayI W (H.below hW) hop (Nat.lt_of_lt_of_le hpb hW.size) ((hW.cell (by exact hpb)).trans hc9) (hg.below hW) hp hi s hs
  clear H hg hp hc9 hcx
  generalize rgN p e (lvO o e.sd) s = r at *
  go_enter Tryz.func137, Tryz.ntmps137
  go_wp2_with fail
  refine (HM.out _ (hb0 _)).mono ?_
  rintro x w1 ⟨rfl, hb1⟩
  go_wp2
  go_ret
  exact ⟨rfl, (hb0 _).trans (hb1.mono (by simp))⟩

set_option maxRecDepth 100000 in
set_option maxHeartbeats 1000000 in
theorem regI {h mb c : Nat} {F : Ent → Value} {oc op : Option Addr} {o : View} {e : Ev} {pa : Option Addr} {cp : Nat} {aa : Option Addr} {ca : Nat} {ga : Option Addr} {cg : Nat} (w : World) (H : Hr w h mb c F oc op o e pa cp aa ca ga cg) :
    Calls Tryz.prog 111 #[.pointer (some ⟨h, 0, none⟩)] w fun x w' => x = .returned (rAns (rReg o e)) ∧ Below w.heap.size w w' := by
  obtain ⟨wa, hwa⟩ : ∃ wa, wa = w.alloc (.cells #[.pointer (some ⟨h, 0, none⟩)] 70) := ⟨_, rfl⟩
  have hba : Below w.heap.size w wa := by rw [hwa]; exact (Below.refl _ _).alloc (Nat.le_refl _) _
  have hsz : w.heap.size < wa.heap.size := by rw [hwa]; simp
  have hrf : Below wa.heap.size wa wa := Below.refl _ _
  have y0 : wa.cell? ⟨w.heap.size, 0, none⟩ = some (.pointer (some ⟨h, 0, none⟩)) := by rw [hwa]; exact World.cell?_alloc_at _ _ _ _ rfl
  have Ha := H.below hba
  have k2 : wa.cell? ⟨h, 2, none⟩ = some (.string e.ty) := Ha.ev.c2
  have k9 : wa.cell? ⟨h, 9, none⟩ = some (.slice ga e.ng cg) := Ha.ev.c9
  have k12 : wa.cell? ⟨h, 12, none⟩ = some (.pointer op) := Ha.c12
  have hlt := Ha.lt
  have hne : h ≠ w.heap.size := by have := H.lt; omega
  clear H
  have g2 : (w.alloc (.cells #[.pointer (some ⟨h, 0, none⟩)] 70)).cell? ⟨h, 2, none⟩ = some (.string e.ty) := by rw [← hwa]; exact k2
  have g9 : (w.alloc (.cells #[.pointer (some ⟨h, 0, none⟩)] 70)).cell? ⟨h, 9, none⟩ = some (.slice ga e.ng cg) := by rw [← hwa]; exact k9
  have g12 : (w.alloc (.cells #[.pointer (some ⟨h, 0, none⟩)] 70)).cell? ⟨h, 12, none⟩ = some (.pointer op) := by rw [← hwa]; exact k12
  rcases Ha.lev.p with ⟨h1, rfl⟩ | ⟨p, pb, po, h1, rfl, hpb, pa', cp', aa', ca', qa, qc, hpc, hpok⟩
  · have Hz : Hid (rReg o e = (0, false)) := by unfold Hid rReg; rw [h1]
    clear Ha h1
    cases hi : isPow e
    all_goals
      unfold isPow at hi
      go_enter Tryz.func111, Tryz.ntmps111
      go_wp2
      try rw [← hwa]
      go_ret2
      exact ⟨ret_r Hz.out, by first | exact hba | (rw [hwa] at hba; exact hba)⟩
  · cases hi : isPow e
    case false =>
      have Hz : Hid (rReg o e = (0, false)) := by unfold Hid rReg; rw [h1, hi]; rfl
      clear Ha h1 hpc hpok
      unfold isPow at hi
      go_enter Tryz.func111, Tryz.ntmps111
      go_wp2
      try rw [← hwa]
      go_ret2
      exact ⟨ret_r Hz.out, by first | exact hba | (rw [hwa] at hba; exact hba)⟩
    case true =>
      have HQ : Hid (rReg o e = (12, !(evry (fun i => rgN p e (lvO o e.sd) (p.M i)) p.ng && evry (fun i => rgN p e (lvO o e.sd) (e.M i)) e.ng))) := by unfold Hid rReg; rw [h1, hi]; rfl
      have c9 := hpc.c9
      have g90 : (w.alloc (.cells #[.pointer (some ⟨h, 0, none⟩)] 70)).cell? ⟨pb, po + 9, none⟩ = some (.slice qa p.ng qc) := by rw [← hwa]; exact c9
      have HCL : ∀ (W : World) (s : ByteArray) (lv : Int), s.size ≤ maxLen → Below wa.heap.size wa W → Calls Tryz.prog 137 #[grV s lv, .pointer (some ⟨w.heap.size, 0, none⟩)] W fun x w' => x = .returned (.bool (!rgN p e (lvO o e.sd) s)) ∧ Below W.heap.size W w' := fun W s lv hs hW => cloI W (Ha.below hW) rfl (Nat.lt_of_lt_of_le hpb hW.size) ((hW.cell (by exact hpb)).trans c9) (hpok.hg.below hW) h1 hi (Nat.lt_of_lt_of_le hsz hW.size) ((hW.cell (by exact hsz)).trans y0) s lv hs
      have H1 : Hid (∀ W, Below wa.heap.size wa W → Calls Tryz.prog 139 #[.slice qa p.ng qc, .func (.func 137) #[] #[.pointer (some ⟨w.heap.size, 0, none⟩)]] W fun x w' => x = .returned (.bool (!evry (fun i => rgN p e (lvO o e.sd) (p.M i)) p.ng)) ∧ Below wa.heap.size wa w') := fun W hW =>
        (cfG_sl (rgN p e (lvO o e.sd)) w.heap.size W (hpok.hg.below hW) (fun W2 i hi2 hW2 => HCL W2 _ _ (hpok.hg.size i hi2) (hW.trans (hW2.mono hW.size)))).mono fun _ _ ⟨h1, h2⟩ => ⟨h1, hW.trans (h2.mono hW.size)⟩
      have H2 : Hid (∀ W, Below wa.heap.size wa W → Calls Tryz.prog 139 #[.slice ga e.ng cg, .func (.func 137) #[] #[.pointer (some ⟨w.heap.size, 0, none⟩)]] W fun x w' => x = .returned (.bool (!evry (fun i => rgN p e (lvO o e.sd) (e.M i)) e.ng)) ∧ Below wa.heap.size wa w') := fun W hW =>
        (cfG_sl (rgN p e (lvO o e.sd)) w.heap.size W (Ha.ok.hg.below hW) (fun W2 i hi2 hW2 => HCL W2 _ _ (Ha.ok.hg.size i hi2) (hW.trans (hW2.mono hW.size)))).mono fun _ _ ⟨h1, h2⟩ => ⟨h1, hW.trans (h2.mono hW.size)⟩
      clear HCL Ha h1 hpc hpok
      unfold isPow at hi
      generalize rReg o e = r at *
      generalize evry (fun i => rgN p e (lvO o e.sd) (p.M i)) p.ng = E1 at *
      generalize evry (fun i => rgN p e (lvO o e.sd) (e.M i)) e.ng = E2 at *
      cases E1
      case false =>
        go_enter Tryz.func111, Tryz.ntmps111
        go_wp2_with fail
        rw [← hwa]
        clear hwa g2 g9 g12 g90
        refine (H1.out _ hrf).mono ?_
        rintro x w1 ⟨rfl, hb1⟩
        go_wp2
        go_ret2
        exact ⟨ret_r (by rw [HQ.out]; rfl), hba.trans (hb1.mono hba.size)⟩
      case true =>
        go_enter Tryz.func111, Tryz.ntmps111
        go_wp2_with fail
        rw [← hwa]
        clear hwa g2 g9 g12 g90
        refine (H1.out _ hrf).mono ?_
        rintro x w1 ⟨rfl, hb1⟩
        have q0 := (hb1.cell (by exact hsz)).trans y0
        have q9 := (hb1.cell (by exact hlt)).trans k9
        go_wp2_with fail
        refine (H2.out _ hb1).mono ?_
        rintro x w2 ⟨rfl, hb2⟩
        go_wp2
        go_ret2
        exact ⟨ret_r (by rw [HQ.out]; rfl), hba.trans (hb2.mono hba.size)⟩
end Go.Proofs.YtnkpikknkooblaaGreat
