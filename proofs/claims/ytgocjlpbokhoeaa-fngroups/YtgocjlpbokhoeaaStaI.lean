import Derived.Test.YtgocjlpbokhoeaaAnEM
namespace Go.Proofs.Ytgocjlpbokhoeaa
open Go.RowKit Go.Maps Go.ChangeMaps
theorem MapE.congrS {w : World} {m n : Nat} {F F' : Ent → Option Ent} (h : MapE w m n F) (e : ∀ s, SOk s → F s = F' s) : MapE w m n F' := by
  obtain ⟨D, h1, h2, h3⟩ := h
  exact ⟨D, h1, h2, fun s hs => by rw [← e s hs]; exact h3 s hs⟩
def fstL : List (List Ent) → Ent → Option Ent
  | [], _ => none
  | S :: R, s => (lookE S s).or (fstL R s)
def filtO (o : Option Ent) : Option Ent := match o with | some e => if e.id.toList.isEmpty then none else some e | none => none
theorem fstL_resp : ∀ L, Resp (fstL L)
  | [] => fun _ _ _ _ => rfl
  | S :: R => fun s t h1 h2 => by
    unfold fstL
    rw [lookE_resp S s t h1 h2, fstL_resp R s t h1 h2]
theorem fstL_fit : ∀ L, Fit1 (fstL L)
  | [] => fun _ _ h => by cases h
  | S :: R => fun s e h => by
    unfold fstL at h
    cases hl : lookE S s with
    | none => rw [hl] at h; exact fstL_fit R s e h
    | some x =>
      rw [hl] at h
      injection h with h
      subst h
      exact (lookE_some hl).2
theorem filt_some {o : Option Ent} {e : Ent} (h : filtO o = some e) : o = some e ∧ e.id.toList.isEmpty = false := by
  unfold filtO at h
  cases o with
  | none => cases h
  | some x =>
    simp only at h
    cases hx : x.id.toList.isEmpty
    · rw [hx] at h
      simp only [Bool.false_eq_true, if_false] at h
      injection h with h
      subst h
      exact ⟨rfl, hx⟩
    · rw [hx] at h
      simp at h
theorem look_st : ∀ {L : List (List Ent)}, ChOk L → ∀ s, lookE (stOf L) s = filtO (fstL L s)
  | [], h, _ => h.elim
  | [S], h, s => by
    show lookE S s = filtO ((lookE S s).or none)
    cases hl : lookE S s with
    | none => rfl
    | some e =>
      have := h.2.2.2 e (lookE_some hl).1
      simp [filtO, this]
  | S :: T :: R, h, s => by
    obtain ⟨h1, _, _, h4⟩ := h
    have ih := look_st (L := T :: R) h4 s
    have hl : lookE (stOf (S :: T :: R)) s = chgTo (lookE S s) (lookE (stOf (T :: R)) s) := patL_lookAll (stOf_ok (L := T :: R) h4).1 h1 s
    rw [hl, ih]
    show chgTo (lookE S s) (filtO (fstL (T :: R) s)) = filtO ((lookE S s).or (fstL (T :: R) s))
    cases lookE S s with
    | none => rfl
    | some e => rfl
theorem st_mem {L : List (List Ent)} (h : ChOk L) (x : Ent) : x ∈ stOf L ↔ ∃ s, SOk s ∧ filtO (fstL L s) = some x := by
  obtain ⟨h1, _, h3⟩ := stOf_ok h
  constructor
  · intro hx
    have := lookE_mem h1 hx (s := x) ⟨rfl, rfl⟩
    rw [look_st h] at this
    exact ⟨x, ⟨(h3 x hx).1, (h3 x hx).2.1⟩, this⟩
  · rintro ⟨s, _, hs⟩
    rw [← look_st h] at hs
    exact (lookE_some hs).1
def Gone (F0 Fc : Ent → Option Ent) (Lf : Ent → Bool) : Prop := ∀ s, SOk s → Fc s = if Lf s = true then F0 s else filtO (F0 s)
theorem gone_keep {w : World} {m r n cnt : Nat} {F0 Fc : Ent → Option Ent} {Lf : Ent → Bool} (h : Gone F0 Fc Lf) (hR : RngE w m r n Fc Lf cnt) (hF : Resp F0) {s e : Ent} (hs : SOk s) (hl : Lf s = true) (he : Fc s = some e) (hid : e.id.toList.isEmpty = false) :
    Gone F0 Fc (fun t => Lf t && !samB s t) := fun t ht => by
  show Fc t = if (Lf t && !samB s t) = true then F0 t else filtO (F0 t)
  rw [h t ht]
  cases hq : samB s t
  · simp
  · have e1 := (samB_iff _ _).1 hq
    have e2 : Lf t = true := by rw [← hR.resp hs ht e1]; exact hl
    have e3 : F0 s = some e := by have := h s hs; rw [hl, if_pos rfl, he] at this; exact this.symm
    have e4 : F0 t = some e := by rw [← hF s t e1.1 e1.2]; exact e3
    rw [e2, e4]
    simp [filtO, hid]
theorem gone_del {F0 Fc : Ent → Option Ent} {Lf : Ent → Bool} (h : Gone F0 Fc Lf) (hF : Resp F0) {s e : Ent} (hs : SOk s) (hl : Lf s = true) (he : Fc s = some e) (hid : e.id.toList.isEmpty = true) :
    Gone F0 (delF Fc s) (fun t => (Lf t && !samB s t) && !samB s t) := fun t ht => by
  show delF Fc s t = if ((Lf t && !samB s t) && !samB s t) = true then F0 t else filtO (F0 t)
  unfold delF
  cases hq : samB s t
  · simp only [Bool.false_eq_true, if_false]
    rw [h t ht]
    simp
  · have e1 := (samB_iff _ _).1 hq
    have e3 : F0 s = some e := by have := h s hs; rw [hl, if_pos rfl, he] at this; exact this.symm
    have e4 : F0 t = some e := by rw [← hF s t e1.1 e1.2]; exact e3
    rw [e4]
    simp [filtO, hid]
set_option maxRecDepth 100000 in
set_option maxHeartbeats 4000000 in
theorem state_any {L : List (List Ent)} {p : Value} (w : World) (hL : LayAt w none p L) (hO : ChOk L) (hn : L.length ≤ 1000) :
    Calls Try.prog 34 #[p] w fun e w' => ∃ v, e = .returned v ∧ OwnE w' w.heap.size v (stOf L) ∧ Below w.heap.size w w' := by
  have hmm := @run_makeMap Try.prog
  have HO : Hid (ChOk L) := hO
  have HA : Hid (AllS L) := hO.alls
  obtain ⟨q0, rfl⟩ := hL.ptr
  obtain ⟨wm, hwm⟩ : ∃ wm, wm = w.alloc (.map #[] 0) := ⟨_, rfl⟩
  have hbm : Below w.heap.size w wm := by rw [hwm]; exact (Below.refl _ _).alloc (Nat.le_refl _) _
  have HM0 : Hid (MapE wm w.heap.size 0 (fun _ => none)) := by rw [hwm]; exact MapE.made w
  have HL0 : Hid (LayAt wm (some w.heap.size) (.pointer q0) L) := LayAt.below (hL.base (y := some w.heap.size) (fun q hq => by injection hq with hq; omega)) hbm
  have HG0 : Hid (∀ s, ((fun _ : Ent => (none : Option Ent)) s).or (fstL L s) = fstL L s) := fun s => by cases fstL L s <;> rfl
  clear hL hO
  go_enter Try.func34, Try.ntmps34
  go_wp2_with fail
  rw [← hwm]
  clear hwm hmm
  go_loopg [0] L.length (fun g s0 wr => ∃ (R : List (List Ent)) (q : Option Addr) (n' : Nat) (F : Ent → Option Ent), s0 = .pointer q ∧ R.length ≤ g ∧ n' + 600 * R.length ≤ 600 * L.length ∧ Hid (LayAt wr (some w.heap.size) (.pointer q) R) ∧ Hid (AllS R) ∧ Hid (MapE wr w.heap.size n' F) ∧ Hid (Resp F) ∧ Hid (∀ s, (F s).or (fstL R s) = fstL L s) ∧ Below w.heap.size w wr)
  case atStart => exact ⟨L, q0, 0, _, rfl, Nat.le_refl _, by omega, HL0, HA, HM0, (fun _ _ _ _ => rfl : Resp (fun _ => none)), HG0, hbm⟩
  case round =>
    clear HL0 HM0 HG0 HA
    obtain ⟨R, q, n', F, rfl, hRg, hnb, HLr, HAr, HM, HF, HG, hbr⟩ := hrel
    cases R with
    | cons S R =>
      obtain ⟨b, pp, a, cap, e0, hblt, c0, c1, c2, c3, hsl, hap, hrest⟩ := HLr.out
      injection e0 with e0
      subst e0
      obtain ⟨q2, rfl⟩ := hrest.ptr
      obtain ⟨hS, h600⟩ := HAr.out S (by simp)
      have Hrest : Hid (LayAt wr (some w.heap.size) (.pointer q2) R) := hrest
      have HAR : Hid (AllS R) := HAr.out.tl
      simp only [List.length_cons] at hRg hnb
      have Hadd : Hid (Calls Try.prog 55 #[.map (some w.heap.size), .slice a S.length cap] wr (AmPost wr w.heap.size n' F S)) := addM_sl wr HF.out HM.out (by omega) hsl hap.2
      have hbm1 : b ≠ w.heap.size := fun e => hap.1 (by rw [e])
      clear HLr HAr hrest hsl hap hS HM
      go_wp2_with fail
      refine (Hadd.out).mono ?_
      rintro e w1 ⟨rfl, hM1, hgr1⟩
      have HM1 : Hid (MapE w1 w.heap.size (n' + S.length) (orF F S)) := hM1
      have d0 : w1.cell? ⟨b, 0, none⟩ = some (.pointer q2) := (World.cell?_of_block (a := ⟨b, 0, none⟩) (hgr1.block b hblt (fun e => hbm1 (by injection e)))).trans c0
      have HL1 : Hid (LayAt w1 (some w.heap.size) (.pointer q2) R) := Hrest.out.grown hgr1
      have HG1 : Hid (∀ s, (orF F S s).or (fstL R s) = fstL L s) := fun s => by
        rw [← HG.out s]
        unfold orF
        rw [Option.or_assoc]
        rfl
      have hb1 : Below w.heap.size w w1 := hbr.grown hgr1 hbr.size (fun q hq => by injection hq with hq; omega)
      clear hM1 hgr1 HG Hrest Hadd c0 c1 c2 c3
      go_wp2
      go_roundg R.length
      case measure => omega
      case rel => exact ⟨R, q2, n' + S.length, orF F S, rfl, Nat.le_refl _, by omega, HL1, HAR, HM1, HF.out.or S, HG1, hb1⟩
    | nil =>
      have e0 : Value.pointer q = .pointer none := HLr.out
      injection e0 with e0
      subst e0
      have HF0 : Hid (∀ s, F s = fstL L s) := fun s => by
        rw [← HG.out s]
        show F s = (F s).or none
        cases F s <;> rfl
      obtain ⟨wo, rfl⟩ : ∃ wo : World, wo = wr := ⟨_, rfl⟩
      have HM1 : Hid (MapE wo w.heap.size n' (fstL L)) := HM.out.congr HF0.out
      obtain ⟨ws, cnt0, hrs, hR0, hbs, hss, hc0⟩ := rng_start HM1.out
      have HR0 : Hid (RngE ws w.heap.size wo.heap.size n' (fstL L) (fun s => (fstL L s).isSome) cnt0) := hR0
      have HG0 : Hid (Gone (fstL L) (fstL L) (fun s => (fstL L s).isSome)) := fun s _ => by
        show fstL L s = if (fstL L s).isSome = true then fstL L s else filtO (fstL L s)
        cases fstL L s <;> rfl
      have hbws := hbr.trans (hbs.mono hbr.size)
      have hn3 : n' ≤ 600000 := by omega
      have hwo := hbr.size
      clear hR0 HM HM1 HF0 HLr HG HAr hss
      go_wp2_with fail
      clear hrs
      go_loopg [4] n' (fun g _ wr => ∃ (Fc : Ent → Option Ent) (Lf : Ent → Bool) (cnt : Nat), cnt ≤ g ∧ Hid (RngE wr w.heap.size wo.heap.size n' Fc Lf cnt) ∧ Hid (Gone (fstL L) Fc Lf) ∧ Below w.heap.size w wr)
      case atStart => exact ⟨_, _, cnt0, hc0, HR0, HG0, hbws⟩
      case round =>
        clear HR0 HG0
        obtain ⟨Fc, Lf, cnt, hcg, HR, HGo, hbr2⟩ := hrel
        rcases rng_next HR.out with ⟨_, hdone, hrun⟩ | ⟨s, e, w1, cnt1, hs, hl, he, hrun, hR1, hc1, hgr1, hsz1, hen⟩
        · have HMf : Hid (MapE wr w.heap.size n' (fun s => filtO (fstL L s))) := HR.out.map.congrS (fun s hs => by rw [HGo.out s hs, hdone s hs]; rfl)
          have Hin : Hid (Calls Try.prog 56 #[.map (some w.heap.size)] wr fun e w' => ∃ v, e = .returned v ∧ OwnE w' wr.heap.size v (stOf L) ∧ Below wr.heap.size wr w') := inSl_any wr HMf.out (fun s t h1 h2 => by rw [fstL_resp L s t h1 h2]) (fun s e h => fstL_fit L s e (filt_some h).1) (by omega) (stOf_ok HO.out).1 (st_mem HO.out) (stOf_ok HO.out).2.2
          have Hok : Hid (AllOk (stOf L)) := (stOf_ok HO.out).2.2
          clear HMf hdone HR HGo
          go_wp2_with fail
          refine (Hin.out).mono ?_
          rintro e w2 ⟨v, rfl, ho2, hb2⟩
          obtain ⟨va, vc, rfl, _⟩ := ho2.sl Hok.out.at
          have hbw2 := hbr2.trans (hb2.mono hbr2.size)
          have ho3 := ho2.base_le hbr2.size
          clear hrun
          go_wp2
          go_ret
          exact ⟨_, rfl, ho3, hbw2⟩
        · have hb1 : Below w.heap.size w w1 := hbr2.grown hgr1 hbr2.size (fun q hq => by injection hq with hq; omega)
          obtain ⟨wq, hwq⟩ : ∃ wq, wq = (w1.alloc (.cells #[.string s.ty, .string s.key] 69)).alloc (.cells #[.string e.ty, .string e.key, .string e.id] 38) := ⟨_, rfl⟩
          have hbq : Below w1.heap.size w1 wq := by rw [hwq]; exact ((Below.refl _ _).alloc (Nat.le_refl _) _).alloc (by simp) _
          have hbwq := hb1.trans (hbq.mono hb1.size)
          have HRq : Hid (RngE wq w.heap.size wo.heap.size n' Fc (fun t => Lf t && !samB s t) cnt1) := hR1.below hbq
          cases hid : e.id.toList.isEmpty
          · have HG2 : Hid (Gone (fstL L) Fc (fun t => Lf t && !samB s t)) := gone_keep HGo.out HR.out (fstL_resp L) hs hl he hid
            have HRw : Hid (RngE ((w1.alloc (.cells #[.string s.ty, .string s.key] 69)).alloc (.cells #[.string e.ty, .string e.key, .string e.id] 38)) w.heap.size wo.heap.size n' Fc (fun t => Lf t && !samB s t) cnt1) := by rw [← hwq]; exact HRq
            have hbw3 : Hid (Below w.heap.size w ((w1.alloc (.cells #[.string s.ty, .string s.key] 69)).alloc (.cells #[.string e.ty, .string e.key, .string e.id] 38))) := by rw [← hwq]; exact hbwq
            clear HR HGo hR1 hgr1 hsz1 hs hl he hwq HRq
            go_wp2
            go_roundg cnt1
            case measure => omega
            case rel => exact ⟨_, _, cnt1, Nat.le_refl _, HRw, HG2, hbw3.out⟩
          · have HG2 : Hid (Gone (fstL L) (delF Fc s) (fun t => (Lf t && !samB s t) && !samB s t)) := gone_del HGo.out (fstL_resp L) hs hl he hid
            obtain ⟨w3, cnt3, hdel, hR3, hc3, hgr3⟩ := rng_del HRq.out hs 0
            have HR3 : Hid (RngE w3 w.heap.size wo.heap.size n' (delF Fc s) (fun t => (Lf t && !samB s t) && !samB s t) cnt3) := hR3
            have hb3 : Below w.heap.size w w3 := hbwq.grown hgr3 hbwq.size (fun q hq => by injection hq with hq; omega)
            rw [hwq] at hdel
            clear HR HGo hR1 hgr1 hsz1 hs hl he hwq hR3 HRq
            go_wp2
            go_roundg cnt3
            case measure => omega
            case rel => exact ⟨_, _, cnt3, Nat.le_refl _, HR3, HG2, hb3⟩
end Go.Proofs.Ytgocjlpbokhoeaa
