import Derived.Test.YtfjfhnjoghlbfaaGreatCsA
import Derived.Test.YtfjfhnjoghlbfaaGreatCmA
import Derived.Test.YtfjfhnjoghlbfaaGreatLvG
/-
  impl.entryAt: the search by halves.
-/
namespace Go.Proofs.YtfjfhnjoghlbfaaGreat
open Go.RowKit

theorem cell_two (w : World) (c1 c2 : Array Value) (t1 t2 : TypeId) (o : Nat) : ((w.alloc (.cells c1 t1)).alloc (.cells c2 t2)).cell? ⟨w.heap.size, o, none⟩ = c1[o]? ∧ ((w.alloc (.cells c1 t1)).alloc (.cells c2 t2)).cell? ⟨w.heap.size + 1, o, none⟩ = c2[o]? := by
  refine ⟨?_, World.cell?_alloc_at _ _ _ _ (by simp)⟩
  rw [World.cell?_alloc_past _ _ _ (by simp)]
  exact World.cell?_alloc_at _ _ _ _ rfl
theorem Grw.cell {w w' : World} (h : Grw w w') {p : Addr} (hp : p.block < w.heap.size) : w'.cell? p = w.cell? p := h.below.cell hp

/-- what BinarySearchFunc answers. -/
def BsPost (l : List Ent) (s : Ent) (w : World) (e : Ending) (w' : World) : Prop := Grw w w' ∧
  ∃ (i : Nat) (t : Bool), e = .returned (.tuple #[.int .i64 (i : Int), .bool t]) ∧ ((t = true ∧ i < l.length ∧ lookE l s = some (eAt l i)) ∨ (t = false ∧ lookE l s = none))

end Go.Proofs.YtfjfhnjoghlbfaaGreat
/-
  impl's grantFor: the search by halves among grants.
-/
namespace Go.Proofs.YtfjfhnjoghlbfaaGreat
open Go.RowKit

/-- a grant as a value. -/
abbrev grV (x : ByteArray) (lv : Int) : Value := .agg #[.string x, .int .i64 lv]

set_option maxRecDepth 100000 in
set_option maxHeartbeats 400000 in
theorem gfC_any' (x : ByteArray) (lv : Int) (s : ByteArray) (w : World) :
    Calls Tryz.prog 103 #[grV x lv, .string s] w fun e w' => e = .returned (.int .i64 (cB x s)) ∧ Grw w w' := by
  go_enter Tryz.func103, Tryz.ntmps103
  go_wp2_with (go_at_call 64; refine (scmp_any x s _).mono ?_; rintro e w' ⟨rfl, rfl⟩)
  go_ret
  exact ⟨rfl, (Grw.refl w).alloc _⟩
theorem gfC_gr (x : ByteArray) (lv : Int) (s : ByteArray) (w : World) : Calls Tryz.prog 103 #[grV x lv, .string s] w fun e w' => e = .returned (.int .i64 (cB x s)) ∧ ∃ q os', w' = Sort.grow (w.drewN q) os' :=
  (gfC_any' x lv s w).mono fun _ _ h => ⟨h.1, h.2.eq⟩

/-- names in order. -/
def AscM (M : Nat → ByteArray) (n : Nat) : Prop := ∀ i j, i < j → j < n → (M i).data.toList < (M j).data.toList
theorem cB_lt {a b : ByteArray} : cB a b < 0 ↔ a.data.toList < b.data.toList := by
  unfold cB
  rcases cmp_cases a.data.toList b.data.toList with ⟨h, e⟩ | ⟨h, e⟩ | ⟨h, e⟩
  · rw [e]; exact ⟨fun _ => h, fun _ => by decide⟩
  · rw [e, h]; exact ⟨fun h' => absurd h' (by decide), fun h' => absurd h' (List.lt_irrefl _)⟩
  · rw [e]; exact ⟨fun h' => absurd h' (by decide), fun h' => absurd (List.lt_trans h' h) (List.lt_irrefl _)⟩
theorem cB_zero {a b : ByteArray} : cB a b = 0 ↔ a = b := by
  unfold cB
  rcases cmp_cases a.data.toList b.data.toList with ⟨h, e⟩ | ⟨h, e⟩ | ⟨h, e⟩
  · rw [e]; exact ⟨fun h' => absurd h' (by decide), fun h' => by subst h'; exact absurd h (List.lt_irrefl _)⟩
  · rw [e]; exact ⟨fun _ => ba_eq h, fun _ => rfl⟩
  · rw [e]; exact ⟨fun h' => absurd h' (by decide), fun h' => by subst h'; exact absurd h (List.lt_irrefl _)⟩
theorem asc_mono {M : Nat → ByteArray} {n : Nat} (h : AscM M n) {s : ByteArray} {i j : Nat} (hij : i ≤ j) (hj : j < n) (hc : cB (M j) s < 0) : cB (M i) s < 0 := by
  by_cases e : i = j
  · subst e; exact hc
  · rw [cB_lt] at hc ⊢
    exact List.lt_trans (h i j (by omega) hj) hc

/-- what the search answers. -/
def BgPost (M : Nat → ByteArray) (n : Nat) (s : ByteArray) (w : World) (e : Ending) (w' : World) : Prop := Grw w w' ∧
  ∃ (i : Nat) (t : Bool), e = .returned (.tuple #[.int .i64 (i : Int), .bool t]) ∧ ((t = true ∧ i < n ∧ M i = s) ∨ (t = false ∧ ∀ j, j < n → M j ≠ s))

set_option maxRecDepth 100000 in
set_option maxHeartbeats 2000000 in
theorem bg_any (b off n cap : Nat) (M : Nat → ByteArray) (L : Nat → Int) (s : ByteArray) (w : World) (hS : AscM M n) (hn : n ≤ 1000000000) (hb : n ≠ 0 → b < w.heap.size)
    (h1 : ∀ i, i < n → w.cell? ⟨b, off + i * 2, none⟩ = some (.string (M i))) (h2 : ∀ i, i < n → w.cell? ⟨b, off + i * 2 + 1, none⟩ = some (.int .i64 (L i))) :
    Calls Tryz.prog 104 #[.slice (some ⟨b, off, none⟩) n cap, .string s, .func (.func 103) #[] #[]] w (BgPost M n s w) := by
  have HS : Hid (AscM M n) := hS
  clear hS
  go_enter Tryz.func104, Tryz.ntmps104
  go_wp2_with fail
  go_loopw [9, 10] (fun s9 s10 wr => ∃ lo hi : Nat, s9 = .int .i64 lo ∧ s10 = .int .i64 hi ∧ lo ≤ hi ∧ hi ≤ n ∧ Grw w wr ∧ Hid ((∀ t, t < lo → cB (M t) s < 0) ∧ (∀ t, hi ≤ t → t < n → 0 ≤ cB (M t) s))) (fun s9 s10 _ => (intOf s10).toNat - (intOf s9).toNat)
  case atStart => exact ⟨0, n, rfl, rfl, Nat.zero_le _, Nat.le_refl _, Grw.refl _, fun t ht => absurd ht (Nat.not_lt_zero _), fun t h1 h2 => by omega⟩
  case round =>
    obtain ⟨lo, hi, rfl, rfl, hlh, hin, hgw, hI⟩ := hrel
    have hcell : Hid (∀ i, i < n → wr.cell? ⟨b, off + i * 2, none⟩ = some (.string (M i)) ∧ wr.cell? ⟨b, off + i * 2 + 1, none⟩ = some (.int .i64 (L i))) := fun i hi => by
      have hbw := hb (by omega)
      exact ⟨(hgw.cell (by exact hbw)).trans (h1 i hi), (hgw.cell (by exact hbw)).trans (h2 i hi)⟩
    clear h1 h2 hb
    by_cases hlt : lo < hi
    · obtain ⟨m, hm⟩ : ∃ m : Nat, m = (lo + hi) / 2 := ⟨_, rfl⟩
      have em : ((lo : Int) + (hi : Int)) / 2 = (m : Int) := by omega
      have hm1 : lo ≤ m := by omega
      have hm2 : m < hi := by omega
      have hml : m < n := by omega
      have a1 := (hcell.out m hml).1
      have a2 := (hcell.out m hml).2
      clear hm
      go_wp2_with fail
      refine (gfC_any' (M m) (L m) s _).mono ?_
      rintro e wz ⟨rfl, hgc⟩
      have hgz := hgw.trans hgc
      have hc0 : Hid (∀ t, t ≤ m → cB (M m) s < 0 → cB (M t) s < 0) := fun t ht hc => asc_mono HS.out ht hml hc
      have hc1 : Hid (∀ t, m ≤ t → t < n → 0 ≤ cB (M m) s → 0 ≤ cB (M t) s) := fun t ht htl hc => Int.not_lt.1 fun h => by have := asc_mono HS.out ht htl h; omega
      clear a1 a2 hcell
      generalize cB (M m) s = c at *
      by_cases hc : c < 0
      · have I2 : Hid ((∀ t, t < m + 1 → cB (M t) s < 0) ∧ (∀ t, hi ≤ t → t < n → 0 ≤ cB (M t) s)) := ⟨fun t ht => hc0.out t (by omega) hc, hI.out.2⟩
        clear hc0 hc1 hI
        go_wp2
        go_roundw
        case rel => exact ⟨m + 1, hi, by go_num, rfl, by omega, by omega, hgz, I2⟩
        case measure => simp [intOf]; omega
      · have I2 : Hid ((∀ t, t < lo → cB (M t) s < 0) ∧ (∀ t, m ≤ t → t < n → 0 ≤ cB (M t) s)) := ⟨hI.out.1, fun t ht htl => hc1.out t ht htl (by omega)⟩
        clear hc0 hc1 hI
        go_wp2
        go_roundw
        case rel => exact ⟨lo, m, rfl, rfl, by omega, by omega, hgz, I2⟩
        case measure => simp [intOf]; omega
    · obtain rfl : hi = lo := by omega
      have hmiss : Hid ((hi < n → M hi ≠ s) → ∀ j, j < n → M j ≠ s) := fun hne j hj e => by
        have hc : cB (M j) s = 0 := cB_zero.2 e
        rcases Nat.lt_trichotomy j hi with h' | h' | h'
        · have := hI.out.1 j h'; omega
        · subst h'; exact hne hj e
        · have h3 := HS.out hi j h' hj
          rw [e, ← cB_lt] at h3
          have := hI.out.2 hi (Nat.le_refl _) (by omega)
          omega
      by_cases hil : hi < n
      · have a1 := (hcell.out hi hil).1
        have a2 := (hcell.out hi hil).2
        have hyes : Hid (cB (M hi) s = 0 → M hi = s) := fun e => cB_zero.1 e
        have hno : Hid (cB (M hi) s ≠ 0 → ∀ j, j < n → M j ≠ s) := fun e => hmiss.out (fun _ e2 => e (cB_zero.2 e2))
        go_wp2_with fail
        refine (gfC_any' (M hi) (L hi) s _).mono ?_
        rintro e wz ⟨rfl, hgc⟩
        have hgz := hgw.trans hgc
        clear a1 a2 hcell hmiss
        generalize cB (M hi) s = c at *
        go_wp2
        refine bodyPost_ret (v := .tuple #[.int .i64 (hi : Int), .bool (c == 0)]) (by simp [results, Tryz.results104, go_sem]) rfl ⟨hgz, hi, (c == 0), rfl, ?_⟩
        by_cases hc : c = 0
        · exact Or.inl ⟨by simpa using hc, hil, hyes.out hc⟩
        · exact Or.inr ⟨by simpa using hc, hno.out hc⟩
      · have hno : Hid (∀ j, j < n → M j ≠ s) := hmiss.out (fun h => absurd h hil)
        obtain rfl : hi = n := by omega
        clear hcell hI hlt hil hlh hin hmiss
        go_wp2
        exact bodyPost_ret (v := .tuple #[.int .i64 (hi : Int), .bool false]) (by simp [results, Tryz.results104, go_sem]) rfl ⟨hgw, hi, false, rfl, Or.inr ⟨rfl, hno.out⟩⟩

set_option maxRecDepth 100000 in
theorem bg_none (a : Option Addr) (cap : Nat) (M : Nat → ByteArray) (s : ByteArray) (w : World) :
    Calls Tryz.prog 104 #[.slice a 0 cap, .string s, .func (.func 103) #[] #[]] w (BgPost M 0 s w) := by
  go_enter Tryz.func104, Tryz.ntmps104
  go_wp2_with fail
  refine wp_loop_rounds 1 ?_
  rw [rounds_succ]
  go_wp2
  exact bodyPost_ret (v := .tuple #[.int .i64 ((0 : Nat) : Int), .bool false]) (by simp [results, Tryz.results104, go_sem]) rfl ⟨Grw.refl w, 0, false, rfl, Or.inr ⟨rfl, fun j hj => absurd hj (Nat.not_lt_zero _)⟩⟩
theorem bg_sl {a : Option Addr} {n cap : Nat} {M : Nat → ByteArray} {L : Nat → Int} (s : ByteArray) (w : World) (hS : AscM M n) (hn : n ≤ 1000000000) (h : SlG w a n cap M L) :
    Calls Tryz.prog 104 #[.slice a n cap, .string s, .func (.func 103) #[] #[]] w (BgPost M n s w) := by
  rcases h.cells with rfl | ⟨b, off, rfl, hb, h1, h2⟩
  · exact bg_none a cap M s w
  · exact bg_any b off n cap M L s w hS hn (fun _ => hb) h1 h2

set_option maxRecDepth 100000 in
set_option maxHeartbeats 1000000 in
theorem gf_sl {a : Option Addr} {n cap : Nat} {M : Nat → ByteArray} {L : Nat → Int} (s : ByteArray) (w : World) (hS : AscM M n) (hn : n ≤ 1000000) (h : SlG w a n cap M L) :
    Calls Tryz.prog 97 #[.slice a n cap, .string s] w fun e w' => e = .returned (gAns (gV M L s n)) ∧ Grw w w' := by
  have HS : Hid (AscM M n) := hS
  clear hS
  go_enter Tryz.func97, Tryz.ntmps97
  go_wp2_with fail
  refine (bg_sl s _ HS.out (by omega) h).mono ?_
  rintro e w1 ⟨hg1, i, t, rfl, hpost⟩
  rcases hpost with ⟨rfl, hi, hm⟩ | ⟨rfl, hno⟩
  · have Hv : Hid (gAns (gV M L s n) = .tuple #[.int .i64 (L i), .bool true]) := by
      unfold Hid
      rw [gV_hit (j := i) (fun j hj => ?_) (by rw [hm]; simp) hi]
      · rfl
      · cases hq : ((M j).toList == s.toList)
        · rfl
        · rw [beq_iff_eq, ByteArray.toList_eq, ByteArray.toList_eq] at hq
          have h3 := HS.out j i hj hi
          rw [hm, hq] at h3
          exact absurd h3 (List.lt_irrefl _)
    clear hm
    rcases (h.below hg1.below).cells with h0 | ⟨b, off, rfl, hb, h1, h2⟩
    · omega
    have c2 := h2 i hi
    clear h1 h2
    go_wp2
    refine bodyPost_ret (v := .tuple #[.int .i64 (L i), .bool true]) (by simp [results, Tryz.results97, go_sem]) rfl ⟨by rw [Hv.out], hg1⟩
  · have Hv : Hid (gAns (gV M L s n) = .tuple #[.int .i64 0, .bool false]) := by
      unfold Hid
      rw [gV_none fun j hj => ?_]
      · rfl
      · cases hq : ((M j).toList == s.toList)
        · rfl
        · rw [beq_iff_eq, ByteArray.toList_eq, ByteArray.toList_eq] at hq
          exact absurd (ba_eq hq) (hno j hj)
    clear hno
    go_wp2
    refine bodyPost_ret (v := .tuple #[.int .i64 0, .bool false]) (by simp [results, Tryz.results97, go_sem]) rfl ⟨by rw [Hv.out], hg1⟩
end Go.Proofs.YtfjfhnjoghlbfaaGreat
/-
  impl's levels, granted, isCreator, ofUser, LevelOf.
-/
namespace Go.Proofs.YtfjfhnjoghlbfaaGreat
open Go.RowKit

/-- a level by a power event at q, or otherwise. -/
def gOr (M : Nat → ByteArray) (L : Nat → Int) (n : Nat) (s : ByteArray) (z : Int) : Int := (gV M L s n).getD z

set_option maxRecDepth 100000 in
set_option maxHeartbeats 2000000 in
theorem grd_any {oc : Option Addr} {b o n cg : Nat} {ga : Option Addr} {M : Nat → ByteArray} {L : Nat → Int} (s : ByteArray) (z : Int) (w : World) (hb : b < w.heap.size) (hc : w.cell? ⟨b, o + 9, none⟩ = some (.slice ga n cg)) (hS : AscM M n) (hn : n ≤ 50) (h : SlG w ga n cg M L) :
    Calls Tryz.prog 86 #[.agg #[.pointer oc, .pointer (some ⟨b, o, none⟩)], .string s, .int .i64 z] w fun e w' => e = .returned (.int .i64 (gOr M L n s z)) ∧ Below w.heap.size w w' := by
  have hb0 : ∀ o, Below w.heap.size w (w.alloc o) := fun o => (Below.refl _ _).alloc (Nat.le_refl _) _
  have c9 : (w.alloc (.cells #[.pointer oc, .pointer (some ⟨b, o, none⟩)] 102)).cell? ⟨b, o + 9, none⟩ = some (.slice ga n cg) := ((hb0 _).cell (by exact hb)).trans hc
  have hne : b ≠ w.heap.size := by omega
  have HG : Hid (∀ W, Below w.heap.size w W → Calls Tryz.prog 97 #[.slice ga n cg, .string s] W fun e w' => e = .returned (gAns (gV M L s n)) ∧ Below W.heap.size W w') := fun W hW => (gf_sl s W hS (by omega) (h.below hW)).mono fun e w' ⟨h1, h2⟩ => ⟨h1, h2.below⟩
  have Hv : Hid (gOr M L n s z = (gV M L s n).getD z) := rfl
  clear h hS hc
  cases ho : gV M L s n with
  | none =>
    rw [ho] at HG Hv
    go_enter Tryz.func86, Tryz.ntmps86
    go_wp2_with fail
    refine (HG.out _ (hb0 _)).mono ?_
    rintro e w1 ⟨rfl, hb1⟩
    unfold gAns
    simp only [Option.getD_none, Option.isSome_none]
    go_wp2
    go_ret
    exact ⟨ret_int Hv.out.symm, (hb0 _).trans (hb1.mono (by simp))⟩
  | some v =>
    rw [ho] at HG Hv
    go_enter Tryz.func86, Tryz.ntmps86
    go_wp2_with fail
    refine (HG.out _ (hb0 _)).mono ?_
    rintro e w1 ⟨rfl, hb1⟩
    unfold gAns
    simp only [Option.getD_some, Option.isSome_some]
    go_wp2
    go_ret
    exact ⟨ret_int Hv.out.symm, (hb0 _).trans (hb1.mono (by simp))⟩

set_option maxRecDepth 100000 in
set_option maxHeartbeats 2000000 in
theorem ofU_pow {oc : Option Addr} {b o cg : Nat} {ga : Option Addr} {ev : Ev} (user : ByteArray) (w : World) (hb : b < w.heap.size) (hc : w.cell? ⟨b, o + 9, none⟩ = some (.slice ga ev.ng cg)) (hS : AscM ev.M ev.ng) (hn : ev.ng ≤ 50) (h : SlG w ga ev.ng cg ev.M ev.L) :
    Calls Tryz.prog 66 #[.agg #[.pointer oc, .pointer (some ⟨b, o, none⟩)], .string user] w fun e w' => e = .returned (.int .i64 (byG ev user)) ∧ Below w.heap.size w w' := by
  have hb0 : ∀ o, Below w.heap.size w (w.alloc o) := fun o => (Below.refl _ _).alloc (Nat.le_refl _) _
  obtain ⟨wa, hwa⟩ : ∃ wa, wa = w.alloc (.cells #[.pointer oc, .pointer (some ⟨b, o, none⟩)] 102) := ⟨_, rfl⟩
  have hba : Below w.heap.size w wa := by rw [hwa]; exact hb0 _
  have hbx : ∀ i, wa.cell? ⟨w.heap.size, i, none⟩ = (#[.pointer oc, .pointer (some ⟨b, o, none⟩)] : Array Value)[i]? := fun i => by rw [hwa]; exact World.cell?_alloc_at _ _ _ _ rfl
  have hsz : w.heap.size < wa.heap.size := by rw [hwa]; simp
  have x0 := hbx 0
  have x1 := hbx 1
  have HG : Hid (∀ W s z, Below w.heap.size w W → Calls Tryz.prog 86 #[.agg #[.pointer oc, .pointer (some ⟨b, o, none⟩)], .string s, .int .i64 z] W fun e w' => e = .returned (.int .i64 (gOr ev.M ev.L ev.ng s z)) ∧ Below W.heap.size W w') := fun W s z hW => grd_any s z W (Nat.lt_of_lt_of_le hb hW.size) ((hW.cell (by exact hb)).trans hc) hS hn (h.below hW)
  have Hv : Hid (byG ev user = gOr ev.M ev.L ev.ng user (gOr ev.M ev.L ev.ng ⟨#[42, 100, 101, 102, 97, 117, 108, 116]⟩ 0)) := by
    unfold Hid byG gOr
    cases gV ev.M ev.L user ev.ng <;> rfl
  have hrf : Below wa.heap.size wa wa := Below.refl _ _
  clear h hS hc hbx
  generalize byG ev user = vv at *
  have H1 : Hid (∀ W, Below wa.heap.size wa W → Calls Tryz.prog 86 #[.agg #[.pointer oc, .pointer (some ⟨b, o, none⟩)], .string ⟨#[42, 100, 101, 102, 97, 117, 108, 116]⟩, .int .i64 0] W fun e w' => e = .returned (.int .i64 (gOr ev.M ev.L ev.ng ⟨#[42, 100, 101, 102, 97, 117, 108, 116]⟩ 0)) ∧ Below wa.heap.size wa w') := fun W hW => (HG.out W _ _ (hba.trans (hW.mono hba.size))).mono fun e w' ⟨h1, h2⟩ => ⟨h1, hW.trans (h2.mono hW.size)⟩
  generalize gOr ev.M ev.L ev.ng ⟨#[42, 100, 101, 102, 97, 117, 108, 116]⟩ 0 = zd at *
  have H2 : Hid (∀ W, Below wa.heap.size wa W → Calls Tryz.prog 86 #[.agg #[.pointer oc, .pointer (some ⟨b, o, none⟩)], .string user, .int .i64 zd] W fun e w' => e = .returned (.int .i64 vv) ∧ Below wa.heap.size wa w') := fun W hW => (HG.out W user zd (hba.trans (hW.mono hba.size))).mono fun e w' ⟨h1, h2⟩ => ⟨by rw [Hv.out]; exact h1, hW.trans (h2.mono hW.size)⟩
  clear HG Hv
  go_enter Tryz.func66, Tryz.ntmps66
  go_wp2_with fail
  rw [← hwa]
  clear hwa
  have y0 : wa.cell? ⟨w.heap.size, 0, none⟩ = some (.pointer oc) := x0
  have y1 : wa.cell? ⟨w.heap.size, 1, none⟩ = some (.pointer (some ⟨b, o, none⟩)) := x1
  clear x0 x1
  go_region_held3 (fun W => W.cell? ⟨w.heap.size, 0, none⟩ = some (.pointer oc) ∧ W.cell? ⟨w.heap.size, 1, none⟩ = some (.pointer (some ⟨b, o, none⟩)))
    (first | (with_reducible exact ⟨y0, y1⟩) | go_keep)
    (first
      | (go_at_call_of 86 user; refine (H2.out _ (by first | with_reducible exact hb2 | with_reducible exact hb2.drew | with_reducible exact hb2.drew.drew | with_reducible exact hb2.drew.drew.drew)).mono ?_; rintro e w3 ⟨rfl, hb3⟩; have r0 := (hb3.cell (by exact hsz)).trans y0; have r1 := (hb3.cell (by exact hsz)).trans y1)
      | (go_at_call 86; refine (H1.out _ (by first | with_reducible exact hrf | with_reducible exact hrf.drew | with_reducible exact hrf.drew.drew | with_reducible exact hrf.drew.drew.drew)).mono ?_; rintro e w2 ⟨rfl, hb2⟩; have q0 := (hb2.cell (by exact hsz)).trans y0; have q1 := (hb2.cell (by exact hsz)).trans y1))
  all_goals
    go_wp2
    go_ret
    exact ⟨rfl, hba.trans (Below.mono (by first | exact hb3 | exact hb3.drew | exact hb3.drew.drew) hba.size)⟩

set_option maxRecDepth 100000 in
set_option maxHeartbeats 1000000 in
theorem ofU_none (user : ByteArray) (w : World) :
    Calls Tryz.prog 66 #[.agg #[.pointer none, .pointer none], .string user] w fun e w' => e = .returned (.int .i64 0) ∧ Below w.heap.size w w' := by
  have hb0 : ∀ o, Below w.heap.size w (w.alloc o) := fun o => (Below.refl _ _).alloc (Nat.le_refl _) _
  have hC : ∀ W, Calls Tryz.prog 87 #[.agg #[.pointer none, .pointer none], .string user] W fun e w' => e = .returned (.bool false) ∧ Below W.heap.size W w' := fun W => by
    go_enter Tryz.func87, Tryz.ntmps87
    go_wp2
    go_ret
    exact ⟨rfl, (Below.refl _ _).alloc (Nat.le_refl _) _⟩
  go_enter Tryz.func66, Tryz.ntmps66
  go_wp2_with fail
  refine (hC _).mono ?_
  rintro e w1 ⟨rfl, hb1⟩
  go_wp2
  go_ret
  exact ⟨rfl, (hb0 _).trans (hb1.mono (by simp))⟩

set_option maxRecDepth 100000 in
set_option maxHeartbeats 1000000 in
theorem ofU_cre {b o : Nat} (sd user : ByteArray) (w : World) (hb : b < w.heap.size) (hc : w.cell? ⟨b, o + 1, none⟩ = some (.string sd)) :
    Calls Tryz.prog 66 #[.agg #[.pointer (some ⟨b, o, none⟩), .pointer none], .string user] w fun e w' => e = .returned (.int .i64 (if (sd.toList == user.toList) = true then 100 else 0)) ∧ Below w.heap.size w w' := by
  have hb0 : ∀ o, Below w.heap.size w (w.alloc o) := fun o => (Below.refl _ _).alloc (Nat.le_refl _) _
  cases hq : (sd.toList == user.toList)
  all_goals
    have hC : ∀ W, Below w.heap.size w W → Calls Tryz.prog 87 #[.agg #[.pointer (some ⟨b, o, none⟩), .pointer none], .string user] W fun e w' => e = .returned (.bool (sd.toList == user.toList)) ∧ Below W.heap.size W w' := fun W hW => by
      have hbW : b < W.heap.size := Nat.lt_of_lt_of_le hb hW.size
      have k1 : (W.alloc (.cells #[.pointer (some ⟨b, o, none⟩), .pointer none] 102)).cell? ⟨b, o + 1, none⟩ = some (.string sd) := (((Below.refl W.heap.size W).alloc (Nat.le_refl _) _).cell (by exact hbW)).trans ((hW.cell (by exact hb)).trans hc)
      have hne : b ≠ W.heap.size := by omega
      go_enter Tryz.func87, Tryz.ntmps87
      go_wp2
      go_ret
      exact ⟨ret_bool (by first | rfl | exact hq.symm | rw [hq]), (Below.refl _ _).alloc (Nat.le_refl _) _⟩
    have HC : Hid (_) := hC
    clear hC
    go_enter Tryz.func66, Tryz.ntmps66
    go_wp2_with fail
    refine (HC.out _ (hb0 _)).mono ?_
    rintro e w1 ⟨rfl, hb1⟩
    rw [hq]
    go_wp2
    go_ret
    exact ⟨rfl, (hb0 _).trans (hb1.mono (by simp))⟩
end Go.Proofs.YtfjfhnjoghlbfaaGreat
