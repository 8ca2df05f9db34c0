import Derived.Test.YtgocjlpbokhoeaaSvP
import Derived.Test.YtgocjlpbokhoeaaLyT
namespace Go.Proofs.Ytgocjlpbokhoeaa
open Go.RowKit
theorem srt_sub : ∀ {a b : List Ent}, SrtE a → SrtE b → (∀ x ∈ b, x ∈ a) → b.Sublist a
  | [], [], _, _, _ => List.Sublist.slnil
  | [], y :: b, _, _, h => absurd (h y (by simp)) (by simp)
  | x :: a, [], _, _, _ => List.nil_sublist _
  | x :: a, y :: b, h1, h2, h => by
    obtain ⟨p1, q1⟩ := List.pairwise_cons.1 h1
    obtain ⟨p2, q2⟩ := List.pairwise_cons.1 h2
    rcases List.mem_cons.1 (h y (by simp)) with e | hy
    · subst e
      refine (srt_sub q1 q2 fun z hz => ?_).cons_cons _
      rcases List.mem_cons.1 (h z (List.mem_cons_of_mem _ hz)) with e | hz'
      · subst e; exact absurd (p2 z hz) (Lt.irrefl z)
      · exact hz'
    · refine (srt_sub q1 h2 fun z hz => ?_).cons _
      rcases List.mem_cons.1 (h z hz) with e | hz'
      · subst e
        rcases List.mem_cons.1 hz with e | hz2
        · subst e; exact absurd (p1 z hy) (Lt.irrefl z)
        · exact absurd (p1 y hy) (p2 z hz2).asymm
      · exact hz'
theorem hs_yes {L : List (List Ent)} {s : List Ent} (hO : ChOk L) (hs : SrtE s) (hid : ∀ x ∈ s, x.id.toList.isEmpty = false) (hlen : (stOf L).length = s.length) (h : ∀ i, i < s.length → (lkL L (eAt s i)).1.toList = (eAt s i).id.toList) : stOf L = s := by
  obtain ⟨o1, _, _⟩ := stOf_ok hO
  refine ((srt_sub o1 hs fun x hx => ?_).eq_of_length hlen.symm).symm
  obtain ⟨i, hi, rfl⟩ := List.mem_iff_getElem.1 hx
  have h1 := h i hi
  rw [eAt_get s i hi, lkL_st hO] at h1
  have h2 := hid _ hx
  rw [← h1] at h2
  cases hl : lookE (stOf L) s[i] with
  | none => rw [hl] at h2; simp at h2
  | some e =>
    obtain ⟨m1, m2, m3⟩ := lookE_some hl
    rw [hl] at h1
    have h3 : e.id.toList = s[i].id.toList := h1
    have h4 : e.id = s[i].id := by
      rw [ByteArray.toList_eq, ByteArray.toList_eq] at h3
      revert h3
      generalize e.id = a
      generalize s[i].id = b
      intro h3
      cases a
      cases b
      simp_all
    have : e = s[i] := by
      revert m2 m3 h4
      generalize s[i] = y
      intro m2 m3 h4
      cases e
      cases y
      simp_all
    rw [← this]
    exact m1
theorem hs_no {L : List (List Ent)} {s : List Ent} (hO : ChOk L) (hs : SrtE s) (e : stOf L = s) (i : Nat) (hi : i < s.length) : (lkL L (eAt s i)).1.toList = (eAt s i).id.toList := by
  rw [lkL_st hO, e, lookE_mem hs (eAt_mem s i hi) ⟨rfl, rfl⟩]
def HsPost (L : List (List Ent)) (s : List Ent) (w : World) (e : Ending) (w' : World) : Prop := (∃ q, e = .returned (.bool q) ∧ (q = true ↔ stOf L = s)) ∧ Below w.heap.size w w'
set_option maxRecDepth 100000 in
set_option maxHeartbeats 2000000 in
theorem hasSt_any {x : Option Nat} {T : List Ent} {R : List (List Ent)} {p : Value} {sa : Option Addr} {sc : Nat} {s : List Ent} (w : World) (hL : LayAt w x p (T :: R)) (hO : ChOk (T :: R)) (hn : (T :: R).length ≤ 1000) (hz : (stOf (T :: R)).length ≤ 1000000) (hs : stB s = true) (h : SlE w sa sc s) :
    Calls Try.prog 29 #[p, .slice sa s.length sc] w (HsPost (T :: R) s w) := by
  obtain ⟨hs3, hsS, hsI⟩ := st_parts hs
  have HO : Hid (ChOk (T :: R) ∧ SrtE s ∧ ∀ x ∈ s, x.id.toList.isEmpty = false) := ⟨hO, hsS, hsI⟩
  have HF : Hid (∀ W y, Below w.heap.size w W → Calls Try.prog 35 #[p, slotV y] W fun e w' => e = .returned (.tuple #[.string (lkL (T :: R) y).1, .int .i64 ((lkL (T :: R) y).2 : Int)]) ∧ Grw W w') := fun W y hW => findL_any (T :: R) p y W (hL.below hW) hO.alls (by omega)
  obtain ⟨b, pp, ta, tc, rfl, hblt, c0, c1, c2, c3, hts, _, hrest⟩ := hL
  clear hts hrest hO hsS hsI hs
  obtain ⟨sl, hsl⟩ : ∃ sl, sl = (stOf (T :: R)).length := ⟨_, rfl⟩
  rw [← hsl] at c3 hz
  have Hsl : Hid (sl = (stOf (T :: R)).length) := hsl
  clear hsl
  by_cases hle : sl = s.length
  · subst hle
    go_enter Try.func29, Try.ntmps29
    go_wp2_with fail
    go_loopw [18] (fun i wr => ∃ k : Nat, k ≤ s.length ∧ i = .int .i64 (k : Int) ∧ Hid (∀ i, i < k → (lkL (T :: R) (eAt s i)).1.toList = (eAt s i).id.toList) ∧ Below w.heap.size w wr) (fun i _ => s.length - (intOf i).toNat)
    case atStart => exact ⟨0, Nat.zero_le _, rfl, fun _ hi => absurd hi (Nat.not_lt_zero _), Below.refl _ _⟩
    case round =>
      obtain ⟨k, hk, rfl, hto, hbel⟩ := hrel
      by_cases hlt : k < s.length
      · have hfd : Hid (∀ W, Below w.heap.size w W → Calls Try.prog 35 #[.pointer (some ⟨b, 0, none⟩), slotV (eAt s k)] W fun e w' => e = .returned (.tuple #[.string (lkL (T :: R) (eAt s k)).1, .int .i64 ((lkL (T :: R) (eAt s k)).2 : Int)]) ∧ Grw W w') := fun W hW => HF.out W _ hW
        rcases h.cells with h0 | ⟨lb, off, rfl, hlb, e1, e2, e3⟩
        · rw [h0] at hlt; exact absurd hlt (Nat.not_lt_zero _)
        have a1 : wr.cell? ⟨lb, off + k * 3, none⟩ = some (.string (eAt s k).ty) := (hbel.cell (by exact hlb)).trans (e1 k hlt)
        have a2 : wr.cell? ⟨lb, off + k * 3 + 1, none⟩ = some (.string (eAt s k).key) := (hbel.cell (by exact hlb)).trans (e2 k hlt)
        have a3 : wr.cell? ⟨lb, off + k * 3 + 2, none⟩ = some (.string (eAt s k).id) := (hbel.cell (by exact hlb)).trans (e3 k hlt)
        have Hyes : Hid ((lkL (T :: R) (eAt s k)).1.toList = (eAt s k).id.toList → ∀ i, i < k + 1 → (lkL (T :: R) (eAt s i)).1.toList = (eAt s i).id.toList) := fun hq i hi => by
          by_cases e : i = k
          · subst e; exact hq
          · exact hto.out i (by omega)
        have Hno : Hid (¬ (lkL (T :: R) (eAt s k)).1.toList = (eAt s k).id.toList → (false = true ↔ stOf (T :: R) = s)) := fun hq => ⟨fun h => (by cases h), fun e => absurd (hs_no HO.out.1 HO.out.2.1 e k hlt) hq⟩
        have hgz0 := hbel.size
        clear e1 e2 e3 c0 c1 c2 c3 HF hto
        generalize (lkL (T :: R) (eAt s k)).2 = v2 at *
        generalize (lkL (T :: R) (eAt s k)).1 = v1 at *
        generalize eAt s k = en at *
        go_wp2_with fail
        obtain ⟨wg, hwg⟩ : ∃ wg, wg = wr.alloc (.cells #[.string en.ty, .string en.key, .string en.id] 38) := ⟨_, rfl⟩
        rw [← hwg]
        have hgA : Below wr.heap.size wr wg := by rw [hwg]; exact (Below.refl _ _).alloc (Nat.le_refl _) _
        have hgz : wr.heap.size < wg.heap.size := by rw [hwg]; simp
        have x2 : wg.cell? ⟨wr.heap.size, 2, none⟩ = some (.string en.id) := by rw [hwg]; exact World.cell?_alloc_at _ _ _ _ rfl
        clear hwg
        refine (slot_any en wg).mono ?_
        rintro e w1 ⟨rfl, hg1⟩
        go_wp2_with fail
        have hb1 := hbel.trans ((hgA.trans (hg1.below.mono hgA.size)).mono hgz0)
        refine (hfd.out w1 hb1).mono ?_
        rintro e w2 ⟨rfl, hg2⟩
        have hg12 := hg1.trans hg2
        have y2 := (hg12.cell (by exact hgz)).trans x2
        have hbw : Below w.heap.size w w2 := hb1.trans (hg2.below.mono hb1.size)
        clear hfd a1 a2 a3 x2 hg1 hg2 hg12 hgA hgz
        by_cases hq : v1.toList = en.id.toList
        · have hq2 : (v1.toList == en.id.toList) = true := by simpa using hq
          have Hy : Hid (_) := Hyes.out hq
          clear Hyes Hno
          go_wp2
          go_roundw
          case rel => exact ⟨k + 1, by omega, by go_num, Hy, hbw⟩
          case measure => simp [intOf]; omega
        · have hq2 : (v1.toList == en.id.toList) = false := by simpa using hq
          have Hn : Hid (false = true ↔ stOf (T :: R) = s) := Hno.out hq
          clear Hyes Hno
          go_wp2
          go_ret
          exact ⟨⟨false, rfl, Hn.out⟩, hbw⟩
      · have hkn : k = s.length := by omega
        have Hy : Hid (stOf (T :: R) = s) := hs_yes HO.out.1 HO.out.2.1 HO.out.2.2 Hsl.out.symm (fun i hi => hto.out i (by omega))
        go_wp2
        go_ret
        exact ⟨⟨true, rfl, fun _ => Hy.out, fun _ => rfl⟩, hbel⟩
  · have hne : ¬ ((sl : Int) = (s.length : Int)) := by omega
    have Hn : Hid (false = true ↔ stOf (T :: R) = s) := ⟨fun h => (by cases h), fun e => absurd (by rw [Hsl.out, e]) hle⟩
    go_enter Try.func29, Try.ntmps29
    go_wp2
    go_ret
    exact ⟨⟨false, rfl, Hn.out⟩, Below.refl _ _⟩
theorem svCl_any {bx : Nat} {L : List (List Ent)} {p : Value} {sa : Option Addr} {sc : Nat} {s : List Ent} (w : World) (hc : w.cell? ⟨bx, 0, none⟩ = some (.slice sa s.length sc)) (hp : ∃ q, p = .pointer q)
    (H : Hid (Calls Try.prog 29 #[p, .slice sa s.length sc] w (HsPost L s w))) :
    Calls Try.prog 28 #[p, .pointer (some ⟨bx, 0, none⟩)] w (HsPost L s w) := by
  obtain ⟨q, rfl⟩ := hp
  go_enter Try.func28, Try.ntmps28
  go_wp2_with fail
  refine H.out.mono ?_
  rintro e w1 ⟨⟨b, rfl, hq⟩, hb⟩
  have Hq : Hid (b = true ↔ stOf L = s) := hq
  clear hq
  go_wp2
  go_ret
  exact ⟨⟨b, rfl, Hq.out⟩, hb⟩
theorem idxQ_zero (a : Option Addr) (cap : Nat) (fv : Value) (w : World) :
    Calls Try.prog 30 #[.slice a 0 cap, fv] w fun e w' => e = .returned (.int .i64 (-1)) ∧ w' = w := by
  go_enter Try.func30, Try.ntmps30
  go_wp2
  refine wp_loop_rounds 1 ?_
  rw [rounds_succ]
  go_wp2
  go_ret
  exact ⟨rfl, rfl⟩
def IxPost (G : Nat → Grp) (s : List Ent) (n : Nat) (w : World) (e : Ending) (w' : World) : Prop := ∃ f : Int, e = .returned (.int .i64 f) ∧ Fnd G s n f ∧ Below w.heap.size w w'
set_option maxRecDepth 100000 in
set_option maxHeartbeats 1000000 in
theorem idxQ_any {b off n cap bx : Nat} {X : Nat → Value} {G : Nat → Grp} {s : List Ent} (w : World) (hn : n ≤ 1000) (hb : b < w.heap.size) (hX : ∀ i, i < n → ∃ q, X i = .pointer q)
    (HC : Hid (∀ W i, i < n → Below w.heap.size w W → Calls Try.prog 28 #[X i, .pointer (some ⟨bx, 0, none⟩)] W (HsPost (csF G i) s W))) (HG : Hid (∀ i, i < n → stOf (csF G i) = expF G (i + 1) i))
    (hc : ∀ i, i < n → w.cell? ⟨b, off + i, none⟩ = some (X i)) :
    Calls Try.prog 30 #[.slice (some ⟨b, off, none⟩) n cap, .func (.func 28) #[] #[.pointer (some ⟨bx, 0, none⟩)]] w (IxPost G s n w) := by
  have hF0 : Hid (Fnd G s 0 (-1)) := fnd_zero G s
  go_enter Try.func30, Try.ntmps30
  go_wp2
  go_loopw [8] (fun i wr => ∃ k : Nat, k ≤ n ∧ i = .int .i64 (k : Int) ∧ Hid (Fnd G s k (-1)) ∧ Below w.heap.size w wr) (fun i _ => n - (intOf i).toNat)
  case atStart => exact ⟨0, Nat.zero_le _, rfl, hF0, Below.refl _ _⟩
  case round =>
    obtain ⟨k, hk, rfl, hto, hbel⟩ := hrel
    by_cases hlt : k < n
    · have a1 : wr.cell? ⟨b, off + k, none⟩ = some (X k) := (hbel.cell (by exact hb)).trans (hc k hlt)
      obtain ⟨q, hq⟩ := hX k hlt
      have HX : Hid (Calls Try.prog 28 #[X k, .pointer (some ⟨bx, 0, none⟩)] wr (HsPost (csF G k) s wr)) := HC.out wr k hlt hbel
      have Hg := HG.out k hlt
      rw [hq] at HX a1
      clear hc hX hq
      have HY : Hid (∀ q2, (q2 = true ↔ stOf (csF G k) = s) → (q2 = false → Fnd G s (k + 1) (-1)) ∧ (q2 = true → Fnd G s n (k : Int))) := fun q2 h2 => by
        rw [Hg] at h2
        refine ⟨fun e => fnd_no hto.out (by omega) (fun e2 => by have := h2.2 e2; rw [e] at this; cases this), fun e => ?_⟩
        have : ∀ m, k + 1 ≤ m → Fnd G s m (k : Int) := fun m hm => by
          induction m with
          | zero => omega
          | succ m ih =>
            by_cases e2 : m = k
            · subst e2; exact fnd_yes hto.out (by omega) (h2.1 e)
            · exact fnd_old (ih (by omega)) (by omega)
        exact this n (by omega)
      clear Hg
      go_wp2_with fail
      refine HX.out.mono ?_
      rintro e w1 ⟨⟨q2, rfl, hq2⟩, hb1⟩
      obtain ⟨y1, y2⟩ := HY.out q2 hq2
      have hbw := hbel.trans (hb1.mono hbel.size)
      clear HX HY hq2
      cases q2
      case false =>
        have hF2 : Hid (Fnd G s (k + 1) (-1)) := y1 rfl
        clear y1 y2
        go_wp2
        go_roundw
        case rel => exact ⟨k + 1, by omega, by go_num, hF2, hbw⟩
        case measure => simp [intOf]; omega
      case true =>
        have hF2 : Hid (Fnd G s n (k : Int)) := y2 rfl
        clear y1 y2
        go_wp2
        go_ret
        exact ⟨(k : Int), rfl, hF2.out, hbw⟩
    · have hkn : k = n := by omega
      subst hkn
      go_wp2
      go_ret
      exact ⟨-1, rfl, hto.out, hbel⟩
theorem idxQ_sl {a : Option Addr} {n cap bx : Nat} {X : Nat → Value} {G : Nat → Grp} {s : List Ent} (w : World) (hn : n ≤ 1000) (h : SlQ w a n cap X) (hX : ∀ i, i < n → ∃ q, X i = .pointer q)
    (HC : Hid (∀ W i, i < n → Below w.heap.size w W → Calls Try.prog 28 #[X i, .pointer (some ⟨bx, 0, none⟩)] W (HsPost (csF G i) s W))) (HG : Hid (∀ i, i < n → stOf (csF G i) = expF G (i + 1) i)) :
    Calls Try.prog 30 #[.slice a n cap, .func (.func 28) #[] #[.pointer (some ⟨bx, 0, none⟩)]] w (IxPost G s n w) := by
  rcases h.cells with rfl | ⟨b, off, rfl, hb, hc⟩
  · refine (idxQ_zero a cap _ w).mono ?_
    rintro e w' ⟨rfl, rfl⟩
    exact ⟨-1, rfl, fnd_zero G s, Below.refl _ _⟩
  · exact idxQ_any w hn hb hX HC HG hc
end Go.Proofs.Ytgocjlpbokhoeaa
