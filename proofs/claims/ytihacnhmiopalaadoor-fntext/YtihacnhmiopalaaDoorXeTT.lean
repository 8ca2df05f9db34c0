import Derived.Test.YtihacnhmiopalaaDoorXeOT
import Derived.Test.YtihacnhmiopalaaDoorJoinST
namespace Go.Proofs.YtihacnhmiopalaaDoor
open Go.RowKit
theorem XeS.less {a : Option Addr} {n lo hi x y : Nat} (h : XeS a n lo hi y) (hx : x <= y) : XeS a n lo hi x :=
 h.imp id fun ⟨b, off, e, h1⟩ => ⟨b, off, e, h1.imp id fun h2 => Nat.le_trans hx h2⟩
theorem SlS.ks {w w' : World} {a : Option Addr} {n cap lo hi c : Nat} {S : Nat -> ByteArray} (h : SlS w a n cap S) (hv : XeS a n lo hi (c + 1)) (hk : Kb c w w') (hr : hi <= c) : SlS w' a n cap S := by
 rcases hv with h0 | ⟨b, off, rfl, h1⟩
 ·exact ⟨h.le, h.max, h.size, Or.inl h0⟩
 ·refine ⟨h.le, h.max, h.size, h.cells.imp id fun ⟨b', off', e, hlt, hc⟩ => ⟨b', off', e, Nat.lt_of_lt_of_le hlt hk.1, fun i hi => ?_⟩⟩
  have e2 : b = b' := by injection e with e; injection e
  exact (hk.cell hlt (by omega)).trans (hc i hi)
theorem SlG.ks {w w' : World} {a : Option Addr} {n cap lo hi c : Nat} {M : Nat -> ByteArray} {L : Nat -> Int} (h : SlG w a n cap M L) (hv : XeS a n lo hi (c + 1)) (hk : Kb c w w') (hr : hi <= c) : SlG w' a n cap M L := by
 rcases hv with h0 | ⟨b, off, rfl, h1⟩
 ·exact ⟨h.le, h.max, h.size, Or.inl h0⟩
 ·refine ⟨h.le, h.max, h.size, h.cells.imp id fun ⟨b', off', e, hlt, hc, hl⟩ => ⟨b', off', e, Nat.lt_of_lt_of_le hlt hk.1, fun i hi => ?_, fun i hi => ?_⟩⟩
  ·have e2 : b = b' := by injection e with e; injection e
   exact (hk.cell hlt (by omega)).trans (hc i hi)
  ·have e2 : b = b' := by injection e with e; injection e
   exact (hk.cell hlt (by omega)).trans (hl i hi)
theorem xeR_post {p : Nat} {wo w : World} {bs : Nat -> Nat} {m q k v lo hi : Nat} {e : Ev} (hhi : hi <= w.heap.size) (Hk : k = nxB bs m q) (Hv : v = nxB bs m (nxQ m q)) : XeR p wo w bs m (nxQ m (nxQ m q)) lo hi (spE k v e) (XePost p wo w bs m q e lo hi) := by
 intro pa cp aa ca ga cg W W' hok h1 h2 h3 hX hK hD
 subst Hk Hv
 refine ⟨pa, cp, aa, ca, ga, cg, rfl, ⟨hok.hid, hok.hsd, hok.hty, hok.hkey, hok.hval, hok.hp.ks h1 hK (by omega), hok.ha.ks h2 hK (by omega), hok.hg.ks h3 hK (by omega)⟩, h1.less (by omega), h2.less (by omega), h3.less (by omega), by have := hX.sz; have := hK.1; omega, fun b hb h4 h5 => ?_, hD⟩
 exact (hK.2 b (by have := hX.sz; omega) (by omega)).trans (hX.k b hb h4 h5)
set_option maxRecDepth 100000 in
set_option maxHeartbeats 4000000 in
theorem spoilEvent (p : Nat) {bs : Nat -> Nat} {m q : Nat} (e : Ev) (t : Ls) (wo w : World) (hp : p < wo.heap.size) (hwl : wo.heap.size <= t.lo) (hd : DwF p wo w bs m q) (hQ : QO w e t) (hnp : e.np <= 1000) (hna : e.na <= 1000) (hng : e.ng <= 1000) :
  Calls Tryd.prog 13 #[.pointer (some ⟨p, 0, none⟩), e.val' t.pa t.cp t.aa t.ca t.ga t.cg] w (XePost p wo w bs m q e t.lo t.hi) := by
 have hww : wo.heap.size <= w.heap.size := hd.size
 have hhi : t.hi <= w.heap.size := hQ.j.hh.2
 have hpw : p < w.heap.size := Nat.lt_of_lt_of_le hp hww
 have hX0 := evX_new (t := 26) (lo := t.lo) (hi := t.hi) (cs := #[.string e.id, .string e.sd, .string e.ty, .bool e.st, .string e.key, .int .i64 e.tm, .slice t.pa e.np t.cp, .slice t.aa e.na t.ca, .string e.val, .slice t.ga e.ng t.cg]) hd rfl
 obtain ⟨wa, hwa⟩ : ∃ wa, wa = (w.alloc (.cells #[.string e.id, .string e.sd, .string e.ty, .bool e.st, .string e.key, .int .i64 e.tm, .slice t.pa e.np t.cp, .slice t.aa e.na t.ca, .string e.val, .slice t.ga e.ng t.cg] 26)).alloc (.cells #[.string ⟨#[]⟩, .string ⟨#[]⟩, .string ⟨#[]⟩, .bool false, .string ⟨#[]⟩, .int .i64 0, .slice none 0 0, .slice none 0 0, .string ⟨#[]⟩, .slice none 0 0] 26) := ⟨_, rfl⟩
 rw [<- hwa] at hX0
 have hba : Below w.heap.size w wa := by rw [hwa]; exact ((Below.refl _ _).alloc (Nat.le_refl _) _).alloc (by simp) _
 have HQa : Hid (QO wa e t) := qcO.below hQ hba
 have HXa : Hid (_) := hX0
 have hk := hd.1.nx
 obtain ⟨k, hk0⟩ : ∃ k, k = nxB bs m q := ⟨_, rfl⟩
 have Hk : Hid (k = nxB bs m q) := hk0
 rw [<- hk0] at hk
 clear hX0 hQ hba
 go_enter Tryd.func13, Tryd.ntmps13
 go_wp2_with fail
 rw [<- hwa]
 clear hwa
 refine (nextF p wa HXa.out.dw.1).mono ?_
 rintro x w1 ⟨rfl, hd1⟩
 rw [<- hk0]
 clear hk0 hd
 have HX1 : Hid (_) := HXa.out.draw hpw hd1
 have HQ1 : Hid (QO w1 e t) := HQa.out.grown hd1.2 (fun b hb => by injection hb with hb; omega)
 have hv := hd1.1.nx
 obtain ⟨v, hv0⟩ : ∃ v, v = nxB bs m (nxQ m q) := ⟨_, rfl⟩
 have Hv : Hid (v = nxB bs m (nxQ m q)) := hv0
 rw [<- hv0] at hv
 clear HXa HQa hd1
 go_wp2_with fail
 refine (nextF p w1 HX1.out.dw.1).mono ?_
 rintro x w2 ⟨rfl, hd2⟩
 rw [<- hv0]
 clear hv0
 have HX2 : Hid (_) := HX1.out.draw hpw hd2
 have HQ2 : Hid (QO w2 e t) := HQ1.out.grown hd2.2 (fun b hb => by injection hb with hb; omega)
 clear HX1 HQ1 hd2
 obtain ⟨od, hod⟩ : ∃ od, od = oddS v := ⟨_, rfl⟩
 have Hod : Hid (od = oddS v) := hod
 go_upto_region 3 with fail
 go_cut [7] (fun x wx => x = .string od ∧ Below w2.heap.size w2 wx)
 case first =>
  clear HX2 HQ2
  obtain ⟨v9, hv9⟩ : ∃ v9, v9 = v % 10 := ⟨_, rfl⟩
  have hv9i : (v : Int) % 10 = (v9 : Int) := by omega
  have hv90 : (0 : Int) <= (v9 : Int) := by omega
  have hv9l : (v9 : Int) < 10 := by omega
  have hbB : Below w2.heap.size w2 ((w2.alloc (.cells #[.string ⟨#[48, 49, 50, 51, 52, 53, 54, 55, 56, 57]⟩, .string ⟨#[48, 49, 50, 51, 52, 53, 54, 55, 56, 57]⟩, .string ⟨#[48, 49, 50, 51, 52, 53, 54, 55, 56, 57]⟩, .string ⟨#[48, 49, 50, 51, 52, 53, 54, 55, 56, 57]⟩] 9)).alloc (.cells #[.string ⟨#[]⟩, .string ⟨#[97, 32, 98]⟩, .string ⟨#[120, 44, 121]⟩, .string ⟨#[45]⟩, .string ⟨#[97, 58, 98]⟩, .string ⟨#[48, 49, 50, 51, 52, 53, 54, 55, 56, 57, 48, 49, 50, 51, 52, 53, 54, 55, 56, 57, 48, 49, 50, 51, 52, 53, 54, 55, 56, 57, 48, 49, 50, 51, 52, 53, 54, 55, 56, 57]⟩, .string ⟨#[48, 49, 50, 51, 52, 53, 54, 55, 56, 57, 48, 49, 50, 51, 52, 53, 54, 55, 56, 57, 48, 49, 50, 51, 52, 53, 54, 55, 56, 57, 48, 49, 50, 51, 52, 53, 54, 55, 56, 57, 48]⟩, .string ⟨#[61]⟩, .string ⟨#[42, 115, 116, 97, 116, 101]⟩, .string ⟨#[111, 107]⟩] 9)) := ((Below.refl _ _).alloc (Nat.le_refl _) _).alloc (by simp) _
  have hix : ((w2.alloc (.cells #[.string ⟨#[48, 49, 50, 51, 52, 53, 54, 55, 56, 57]⟩, .string ⟨#[48, 49, 50, 51, 52, 53, 54, 55, 56, 57]⟩, .string ⟨#[48, 49, 50, 51, 52, 53, 54, 55, 56, 57]⟩, .string ⟨#[48, 49, 50, 51, 52, 53, 54, 55, 56, 57]⟩] 9)).alloc (.cells #[.string ⟨#[]⟩, .string ⟨#[97, 32, 98]⟩, .string ⟨#[120, 44, 121]⟩, .string ⟨#[45]⟩, .string ⟨#[97, 58, 98]⟩, .string ⟨#[48, 49, 50, 51, 52, 53, 54, 55, 56, 57, 48, 49, 50, 51, 52, 53, 54, 55, 56, 57, 48, 49, 50, 51, 52, 53, 54, 55, 56, 57, 48, 49, 50, 51, 52, 53, 54, 55, 56, 57]⟩, .string ⟨#[48, 49, 50, 51, 52, 53, 54, 55, 56, 57, 48, 49, 50, 51, 52, 53, 54, 55, 56, 57, 48, 49, 50, 51, 52, 53, 54, 55, 56, 57, 48, 49, 50, 51, 52, 53, 54, 55, 56, 57, 48]⟩, .string ⟨#[61]⟩, .string ⟨#[42, 115, 116, 97, 116, 101]⟩, .string ⟨#[111, 107]⟩] 9)).cell? ⟨w2.heap.size + 1, v9, none⟩ = some (.string od) := by
   rw [World.cell?_alloc_at _ _ _ _ (by simp), hod]
   unfold oddS
   rw [<- hv9]
   match v9, (by omega : v9 < 10) with
   | 0, _ => rfl
   | 1, _ => rfl
   | 2, _ => rfl
   | 3, _ => rfl
   | 4, _ => rfl
   | 5, _ => rfl
   | 6, _ => rfl
   | 7, _ => rfl
   | 8, _ => rfl
   | 9, _ => rfl
  have hjn : joinB (fun _ => (⟨#[48, 49, 50, 51, 52, 53, 54, 55, 56, 57]⟩ : ByteArray)) ⟨#[]⟩ 4 = ⟨#[48, 49, 50, 51, 52, 53, 54, 55, 56, 57, 48, 49, 50, 51, 52, 53, 54, 55, 56, 57, 48, 49, 50, 51, 52, 53, 54, 55, 56, 57, 48, 49, 50, 51, 52, 53, 54, 55, 56, 57]⟩ := by decide
  have HJ : Hid (∀ W, W = w2.alloc (.cells #[.string ⟨#[48, 49, 50, 51, 52, 53, 54, 55, 56, 57]⟩, .string ⟨#[48, 49, 50, 51, 52, 53, 54, 55, 56, 57]⟩, .string ⟨#[48, 49, 50, 51, 52, 53, 54, 55, 56, 57]⟩, .string ⟨#[48, 49, 50, 51, 52, 53, 54, 55, 56, 57]⟩] 9) -> Calls Tryd.prog 30 #[.slice (some ⟨w2.heap.size, 0, none⟩) (4 : Nat) 4, .string ⟨#[]⟩] W fun e w' => e = .returned (.string ⟨#[48, 49, 50, 51, 52, 53, 54, 55, 56, 57, 48, 49, 50, 51, 52, 53, 54, 55, 56, 57, 48, 49, 50, 51, 52, 53, 54, 55, 56, 57, 48, 49, 50, 51, 52, 53, 54, 55, 56, 57]⟩) ∧ w' = W) := fun W hW => by
   have := joinS_any w2.heap.size 0 4 4 (fun _ => (⟨#[48, 49, 50, 51, 52, 53, 54, 55, 56, 57]⟩ : ByteArray)) ⟨#[]⟩ W (by decide) (by rw [hjn]; decide) (fun i hi => by
    rw [hW, World.cell?_alloc_at _ _ _ _ rfl]
    match i, hi with
    | 0, _ => rfl
    | 1, _ => rfl
    | 2, _ => rfl
    | 3, _ => rfl)
   rw [hjn] at this
   exact this
  clear hod hv9 hjn Hod Hk Hv
  go_wp2_with fail
  refine (HJ.out _ rfl).mono ?_
  rintro x w3 ⟨rfl, rfl⟩
  clear HJ
  go_wp2
  go_meet
  exact ⟨rfl, hbB⟩
 case rest =>
  obtain ⟨rfl, hbz⟩ := hcut
  obtain ⟨wz, hwz⟩ : ∃ wz : World, wz = wc := ⟨_, rfl⟩
  subst hwz
  have HXz : Hid (_) := HX2.out.below hbz
  have HQz : Hid (QO wz e t) := qcO.below HQ2.out hbz
  have HR : Hid (XeR p wo w bs m (nxQ m (nxQ m q)) t.lo t.hi (spE k v e) (XePost p wo w bs m q e t.lo t.hi)) := xeR_post hhi Hk.out Hv.out
  clear HX2 HQ2 hbz hod Hk Hv
  obtain ⟨c, hc⟩ : ∃ c, k % 16 = c := ⟨_, rfl⟩
  have hc16 : c < 16 := by omega
  match c, hc16, hc with
  | 0, _, hc => apply_assumption; exact xeC0 p wo w wz hp hww hhi hk hv hc Hod HQz HXz HR
  | 1, _, hc => apply_assumption; exact xeC1 p wo w wz hp hww hhi hk hv hc Hod HQz HXz HR
  | 2, _, hc => apply_assumption; exact xeC2 p wo w wz hp hww hhi hk hv hc Hod HQz HXz HR
  | 3, _, hc => apply_assumption; exact xeC3 p wo w wz hp hww hhi hk hv hc Hod HQz HXz HR
  | 4, _, hc => apply_assumption; exact xeC4 p wo w wz hp hww hhi hk hv hc Hod HQz HXz HR
  | 5, _, hc => apply_assumption; exact xeC5 p wo w wz hp hww hhi hk hv hc Hod HQz HXz HR
  | 6, _, hc => apply_assumption; exact xeC6 p wo w wz hp hww hhi hk hv hc Hod HQz HXz HR
  | 7, _, hc => apply_assumption; exact xeC7 p wo w wz hp hww hwl hhi hk hc hnp Hod HQz HXz HR
  | 8, _, hc => apply_assumption; exact xeC8 p wo w wz hp hww hwl hhi hk hc hna HQz HXz HR
  | 9, _, hc => apply_assumption; exact xeC9 p wo w wz hp hww hwl hhi hk hc hnp Hod HQz HXz HR
  | 10, _, hc => apply_assumption; exact xeC10 p wo w wz hp hww hwl hhi hk hv hc HQz HXz HR
  | 11, _, hc => apply_assumption; exact xeC11 p wo w wz hp hww hhi hk hv hc Hod HQz HXz HR
  | 12, _, hc => apply_assumption; exact xeC12 p wo w wz hp hww hwl hhi hk hv hc hng Hod HQz HXz HR
  | 13, _, hc => apply_assumption; exact xeC13 p wo w wz hp hww hhi hk hc HQz HXz HR
  | 14, _, hc => apply_assumption; exact xeC14 p wo w wz hp hww hwl hhi hk hv hc HQz HXz HR
  | 15, _, hc => apply_assumption; exact xeC15 p wo w wz hp hww hhi hk hc HQz HXz HR
  | _ + 16, h, _ => exact absurd h (by omega)
end Go.Proofs.YtihacnhmiopalaaDoor
