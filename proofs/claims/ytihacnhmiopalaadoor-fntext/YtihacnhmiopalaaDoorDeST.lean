import Derived.Test.YtihacnhmiopalaaDoorDeRT
namespace Go.Proofs.YtihacnhmiopalaaDoor
open Go.RowKit
def drE0 (k : Nat) : Ev := { id := ⟨#[36]⟩ ++ decB k, sd := usr k, ty := ⟨#[]⟩, key := ⟨#[]⟩, val := ⟨#[]⟩, st := false, tm := (k : Int) * 1000, np := 1, na := k % 3, ng := 0, Pv := fun _ => x1T, Av := auT, M := fun _ => ⟨#[]⟩, L := fun _ => 0 }
def evCr : Ev := { id := ⟨#[36, 99]⟩, sd := ⟨#[64, 97]⟩, ty := ⟨#[99, 114, 101, 97, 116, 101]⟩, key := ⟨#[]⟩, val := ⟨#[]⟩, st := true, tm := 0, np := 0, na := 0, ng := 0, Pv := fun _ => ⟨#[]⟩, Av := fun _ => ⟨#[]⟩, M := fun _ => ⟨#[]⟩, L := fun _ => 0 }
def drEv (bs : Nat -> Nat) (m q : Nat) : Ev := if nxB bs m q % 9 = 8 then evCr else cDr bs m (nxQ m q) (drE0 (nxB bs m q))
def drEq (bs : Nat -> Nat) (m q : Nat) : Nat := cQr bs m (nxQ m q)
def DePost (p : Nat) (w : World) (bs : Nat -> Nat) (m q : Nat) (x : Ending) (w' : World) : Prop :=
 ∃ t : Ls, x = .returned ((drEv bs m q).val' t.pa t.cp t.aa t.ca t.ga t.cg) ∧ QO w' (drEv bs m q) t ∧ w.heap.size <= t.lo ∧ DwF p w w' bs m (drEq bs m q)
theorem auT_size (i : Nat) : (auT i).size <= 100 := by
 unfold auT
 split <;> decide
theorem iv_own {w : World} {base st n cap : Nat} {t : TypeId} {a : Option Addr} {xs : List Value} (h : w.ownsRow base t st (.slice a n cap) n xs) : Iv a n base w.heap.size := by
 rcases h.2 with ⟨h0, h1⟩ | ⟨g, c, cur, e, _⟩
 ·exact Or.inl h1
 ·injection e with e1
  subst e1
  have := ownsRow_blk h g rfl
  exact Or.inr ⟨g, 0, rfl, this.1, this.2⟩
theorem qo_of {w : World} {e : Ev} {lo cp ca cg : Nat} {pa aa ga : Option Addr} (hlo : lo <= w.heap.size) (h1 : OwnT w lo (.slice pa e.np cp) e.np e.Pv) (h2 : OwnT w lo (.slice aa e.na ca) e.na e.Av) (h3 : OwnG w lo (.slice ga e.ng cg) e.ng e.M e.L)
  (hd : ∀ b, (Value.slice pa e.np cp).ownBlock = some b -> (Value.slice aa e.na ca).ownBlock ≠ some b) (s0 : e.id.size <= maxLen ∧ e.sd.size <= maxLen ∧ e.ty.size <= maxLen ∧ e.key.size <= maxLen ∧ e.val.size <= maxLen)
  (s1 : ∀ i, i < e.np -> (e.Pv i).size <= maxLen) (s2 : ∀ i, i < e.na -> (e.Av i).size <= maxLen) (s3 : ∀ i, i < e.ng -> (e.M i).size <= maxLen) : QO w e ⟨pa, cp, aa, ca, ga, cg, lo, lo, lo, w.heap.size⟩ := by
 obtain ⟨x1, y1, e1, l1⟩ := h1.sl s1
 injection e1 with e1 _ e1'
 subst e1 e1'
 obtain ⟨x2, y2, e2, l2⟩ := h2.sl s2
 injection e2 with e2 _ e2'
 subst e2 e2'
 obtain ⟨x3, y3, e3, l3, _⟩ := h3.sl s3
 injection e3 with e3 _ e3'
 subst e3 e3'
 refine ⟨⟨⟨s0.1, s0.2.1, s0.2.2.1, s0.2.2.2.1, s0.2.2.2.2, l1, l2, l3⟩, iv_own h1, iv_own h2, iv_own h3, hlo, Nat.le_refl _⟩, h1, h2, h3, hd, fun b hb => ?_⟩
 rcases hb with hb | hb | hb
 ·exact (ownsRow_blk h1 b hb).2
 ·exact (ownsRow_blk h2 b hb).2
 ·exact (ownsRow_blk h3 b hb).2
def DeC (p : Nat) (w : World) (bs : Nat -> Nat) (m q : Nat) (km : Int) (r3 : Nat) (ic us : ByteArray) (v : Value) (wx : World) : Prop :=
 ∃ B b1 b2, v = .pointer (some ⟨B, 0, none⟩) ∧ Hid (DeV p w wx bs m q B (fun o => (#[.string ic, .string us, .string ⟨#[]⟩, .bool false, .string ⟨#[]⟩, .int .i64 km, .slice (some ⟨b1, 0, none⟩) 1 1, .slice (some ⟨b2, 0, none⟩) r3 2, .string ⟨#[]⟩, .slice none 0 0] : Array Value)[o]?.getD undef)) ∧ Hid (OwnT wx (w.heap.size + 1) (.slice (some ⟨b1, 0, none⟩) 1 1) 1 (fun _ => x1T)) ∧ Hid (OwnT wx (w.heap.size + 1) (.slice (some ⟨b2, 0, none⟩) r3 2) r3 auT) ∧ Hid (b1 ≠ b2 ∧ b1 ≠ B ∧ b2 ≠ B)
theorem ownK {w w' : World} {base st n c : Nat} {t : TypeId} {v : Value} {xs : List Value} (h : w.ownsRow base t st v n xs) (hk : Kb c w w') (hc : v.ownBlock ≠ some c) : w'.ownsRow base t st v n xs :=
 ownsRow_k h fun g hg hl => hk.2 g hl (fun e => hc (by rw [<- e]; exact hg))
theorem ownD {p : Nat} {w w' : World} {bs : Nat -> Nat} {m q : Nat} {base st n : Nat} {t : TypeId} {v : Value} {xs : List Value} (h : w.ownsRow base t st v n xs) (hd : DwF p w w' bs m q) (hp : p < base) : w'.ownsRow base t st v n xs :=
 ownsRow_k h fun g hg hl => hd.2.block g hl (fun e => by injection e with e; have := (ownsRow_blk h g hg).1; omega)
set_option maxRecDepth 100000 in
set_option maxHeartbeats 4000000 in
theorem drawEvent (p : Nat) {bs : Nat -> Nat} {m q : Nat} (w : World) (h : RdF w p bs m q) :
  Calls Tryd.prog 12 #[.pointer (some ⟨p, 0, none⟩)] w (DePost p w bs m q) := by
 have hp := h.lt
 have hk := h.nx
 obtain ⟨wa, hwa⟩ : ∃ wa, wa = w.alloc (.cells #[.string ⟨#[]⟩, .string ⟨#[]⟩, .string ⟨#[]⟩, .bool false, .string ⟨#[]⟩, .int .i64 0, .slice none 0 0, .slice none 0 0, .string ⟨#[]⟩, .slice none 0 0] 26) := ⟨_, rfl⟩
 have hba : Below w.heap.size w wa := by rw [hwa]; exact (Below.refl _ _).alloc (Nat.le_refl _) _
 have hsa : w.heap.size < wa.heap.size := by rw [hwa]; simp
 have hza : ∀ o, o < 10 -> ∃ v, wa.cell? ⟨w.heap.size, o, none⟩ = some v := fun o ho => by
  rw [hwa, World.cell?_alloc_at _ _ _ _ rfl]
  match o, ho with
  | 0, _ => exact ⟨_, rfl⟩
  | 1, _ => exact ⟨_, rfl⟩
  | 2, _ => exact ⟨_, rfl⟩
  | 3, _ => exact ⟨_, rfl⟩
  | 4, _ => exact ⟨_, rfl⟩
  | 5, _ => exact ⟨_, rfl⟩
  | 6, _ => exact ⟨_, rfl⟩
  | 7, _ => exact ⟨_, rfl⟩
  | 8, _ => exact ⟨_, rfl⟩
  | 9, _ => exact ⟨_, rfl⟩
 have hfa : ∀ o, wa.frozen? ⟨w.heap.size, o, none⟩ = false := fun o => by rw [hwa]; exact World.frozen?_alloc_at _ _ _ _ rfl
 obtain ⟨k, hk0⟩ : ∃ k, k = nxB bs m q := ⟨_, rfl⟩
 have Hk : Hid (k = nxB bs m q) := hk0
 rw [<- hk0] at hk
 go_enter Tryd.func12, Tryd.ntmps12
 go_wp2_with fail
 rw [<- hwa]
 clear hwa
 refine (nextF p wa (h.below hba)).mono ?_
 rintro x w1 ⟨rfl, hd1⟩
 rw [<- hk0]
 clear hk0
 have hkb : ∀ b, b < wa.heap.size -> b ≠ p -> w1.heap[b]? = wa.heap[b]? := fun b h1 h2 => hd1.2.block b h1 (fun e => by injection e with e; omega)
 have HI : Hid (DeI p w w1 bs m (nxQ m q) none none none) := ⟨((DwF.refl h).below hba).trans hd1, by have := hd1.size; omega, fun o ho => (hza o ho).imp fun v hv => (World.cell?_of_block (a := ⟨w.heap.size, o, none⟩) (hkb w.heap.size hsa (by omega))).trans hv, fun o => (World.frozen?_of_block (a := ⟨w.heap.size, o, none⟩) (hkb w.heap.size hsa (by omega))).trans (hfa o), fun _ e => absurd e (by simp), fun _ e => absurd e (by simp), fun _ e => absurd e (by simp), fun _ _ e => absurd e (by simp), fun _ _ e => absurd e (by simp), fun _ _ e => absurd e (by simp)⟩
 clear hd1 hkb hza hfa hba hsa h
 obtain ⟨dc, hdc⟩ : ∃ dc, dc = decB k := ⟨_, rfl⟩
 obtain ⟨ic, hic⟩ : ∃ ic, ic = (⟨#[36]⟩ : ByteArray) ++ dc := ⟨_, rfl⟩
 obtain ⟨us, hus⟩ : ∃ us, us = usr k := ⟨_, rfl⟩
 obtain ⟨km, hkm⟩ : ∃ km, km = (k : Int) * 1000 := ⟨_, rfl⟩
 obtain ⟨r3, hr3e⟩ : ∃ r3, r3 = k % 3 := ⟨_, rfl⟩
 have Hdc : Hid (dc = decB k) := hdc
 have Hic : Hid (ic = (⟨#[36]⟩ : ByteArray) ++ dc) := hic
 have Hus : Hid (us = usr k) := hus
 have Hkm : Hid (km = (k : Int) * 1000) := hkm
 have Hr3 : Hid (r3 = k % 3) := hr3e
 have hr3 : r3 <= 2 := by omega
 have hds : dc.size <= 20 := by rw [hdc]; exact decB_size k (by omega)
 have hds2 : ¬ 9223372036854775807 < 1 + dc.size := by omega
 have hw1 : IntKind.i64.wrap ((k : Int) * 1000) = km := by rw [hkm, IntKind.wrap_i64]; omega
 have hw2 : ((k : Int)).tmod 3 = (r3 : Int) := by rw [hr3e, Int.tmod_eq_emod_of_nonneg (by omega)]; omega
 clear hdc hic hus hkm hr3e
 go_upto_region 2 with fail
 go_cut [4] (fun v wx => DeC p w bs m (nxQ m q) km r3 ic us v wx)
 case first =>
  refine wp_region_held_drew (S := fun _ => True) (by kernel_rfl) trivial (fun _ => ?_)
  refine wpAnyH_take (i := 0) (v := ?vm1) rfl (by kernel_rfl) (by kernel_rfl) (by kernel_rfl) (fun _ _ _ h => h) (Or.inl ⟨by rfl, ?hm1⟩) trivial ?_
  case hm1 => (intro w h; (try dsimp only at h); go_simp; try (with_reducible rfl))
  simp only [Act.put, si]
  refine wpAnyH_take (i := 3) (v := ?vm2) rfl (by kernel_rfl) (by kernel_rfl) (by kernel_rfl) (fun _ _ _ h => h) (Or.inl ⟨by rfl, ?hm2⟩) trivial ?_
  case hm2 => (intro w h; (try dsimp only at h); go_simp; try (with_reducible rfl))
  simp only [Act.put, si]
  refine wpAnyH_take (i := 5) (v := ?vm3) rfl (by kernel_rfl) (by kernel_rfl) (by kernel_rfl) (fun _ _ _ h => h) (Or.inl ⟨by rfl, ?hm3⟩) trivial ?_
  case hm3 => (intro w h; (try dsimp only at h); go_simp; try (with_reducible rfl))
  simp only [Act.put, si]
  refine wpAnyH_take (i := 6) (v := (.int .i64 km)) rfl (by kernel_rfl) (by kernel_rfl) (by kernel_rfl) (fun _ _ _ h => h) (Or.inl ⟨by rfl, ?hm4⟩) trivial ?_
  case hm4 => (intro w h; (try dsimp only at h); go_simp)
  simp only [Act.put, si]
  refine wpAnyH_take (i := 9) (v := ?vm5) rfl (by kernel_rfl) (by kernel_rfl) (by kernel_rfl) (fun _ _ _ h => h) (Or.inl ⟨by rfl, ?hm5⟩) trivial ?_
  case hm5 => (intro w h; (try dsimp only at h); go_simp; try (with_reducible rfl))
  simp only [Act.put, si]
  refine wpAnyH_take (i := 10) (v := (.int .i64 (r3 : Int))) rfl (by kernel_rfl) (by kernel_rfl) (by kernel_rfl) (fun _ _ _ h => h) (Or.inl ⟨by rfl, ?hm6⟩) trivial ?_
  case hm6 => (intro w h; (try dsimp only at h); go_simp)
  simp only [Act.put, si]
  refine wpO rfl (by kernel_rfl) (deN0000 p _ (fun _ _ d _ _ h => by cases d <;> exact h) hk hr3 hds2 Hdc Hic Hus (by first | exact HI.out | exact HI.out.dr) (fun b1 b2 B W' hI' => ?_))
  go_wp2_with fail
  go_meet
  have hV := hI'.var.fill hp (.string ic) (.string us) (.string ⟨#[]⟩) (.bool false) (.string ⟨#[]⟩) (.int .i64 km) (.slice (some ⟨b1, 0, none⟩) 1 1) (.slice (some ⟨b2, 0, none⟩) r3 2) (.string ⟨#[]⟩) (.slice none 0 0)
  have hK := fil10_kb W' B (.string ic) (.string us) (.string ⟨#[]⟩) (.bool false) (.string ⟨#[]⟩) (.int .i64 km) (.slice (some ⟨b1, 0, none⟩) 1 1) (.slice (some ⟨b2, 0, none⟩) r3 2) (.string ⟨#[]⟩) (.slice none 0 0)
  exact ⟨B, b1, b2, rfl, hV, ownK (hI'.a b1 rfl) hK (fun e => hI'.av b1 B rfl rfl (by injection e)), ownK ((hI'.b b2 rfl).less hr3) hK (fun e => hI'.bv b2 B rfl rfl (by injection e)), hI'.ab b1 b2 rfl rfl, hI'.av b1 B rfl rfl, hI'.bv b2 B rfl rfl⟩
 case rest =>
  obtain ⟨B, b1, b2, rfl, HV, H1, H2, Hne⟩ := hcut
  obtain ⟨w2, hw2e⟩ : ∃ w2 : World, w2 = wc := ⟨_, rfl⟩
  subst hw2e
  clear HI hw1 hw2
  have hV2 := HV.out
  have c0 : w2.cell? ⟨B, 0, none⟩ = some (.string ic) := hV2.b 0 (by decide)
  have c1 : w2.cell? ⟨B, 1, none⟩ = some (.string us) := hV2.b 1 (by decide)
  have c2 : w2.cell? ⟨B, 2, none⟩ = some (.string ⟨#[]⟩) := hV2.b 2 (by decide)
  have c3 : w2.cell? ⟨B, 3, none⟩ = some (.bool false) := hV2.b 3 (by decide)
  have c4 : w2.cell? ⟨B, 4, none⟩ = some (.string ⟨#[]⟩) := hV2.b 4 (by decide)
  have c5 : w2.cell? ⟨B, 5, none⟩ = some (.int .i64 km) := hV2.b 5 (by decide)
  have c6 : w2.cell? ⟨B, 6, none⟩ = some (.slice (some ⟨b1, 0, none⟩) 1 1) := hV2.b 6 (by decide)
  have c7 : w2.cell? ⟨B, 7, none⟩ = some (.slice (some ⟨b2, 0, none⟩) r3 2) := hV2.b 7 (by decide)
  have c8 : w2.cell? ⟨B, 8, none⟩ = some (.string ⟨#[]⟩) := hV2.b 8 (by decide)
  have c9 : w2.cell? ⟨B, 9, none⟩ = some (.slice none 0 0) := hV2.b 9 (by decide)
  obtain ⟨e0, he0⟩ : ∃ e0, e0 = drE0 k := ⟨_, rfl⟩
  have HD : Hid (Calls Tryd.prog 29 #[.pointer (some ⟨p, 0, none⟩), .agg #[.string ic, .string us, .string ⟨#[]⟩, .bool false, .string ⟨#[]⟩, .int .i64 km, .slice (some ⟨b1, 0, none⟩) 1 1, .slice (some ⟨b2, 0, none⟩) r3 2, .string ⟨#[]⟩, .slice none 0 0]] w2 (CtPost p w2 bs m (nxQ m q) e0 (some ⟨b1, 0, none⟩) 1 (some ⟨b2, 0, none⟩) 2 none 0)) := by
   have := drawContent p e0 (some ⟨b1, 0, none⟩) 1 (some ⟨b2, 0, none⟩) 2 none 0 w2 hV2.dw.1
   rw [he0] at this ⊢
   unfold Hid
   rw [Hic.out, Hdc.out, Hus.out, Hkm.out, Hr3.out]
   exact this
  have He0 : Hid (e0 = drE0 k) := he0
  clear he0
  go_wp2_with fail
  refine HD.out.mono ?_
  rintro x w5 ⟨ga, cg, rfl, hgr, hd5⟩
  have hV5 := hV2.draw hp hd5
  have h15 : OwnT w5 (w.heap.size + 1) (.slice (some ⟨b1, 0, none⟩) 1 1) 1 (fun _ => x1T) := ownD H1.out hd5 (by omega)
  have h25 : OwnT w5 (w.heap.size + 1) (.slice (some ⟨b2, 0, none⟩) r3 2) r3 auT := ownD H2.out hd5 (by omega)
  have hs25 : w.heap.size + 1 <= w2.heap.size := by have := hV2.lo; have := hV2.lt; omega
  obtain ⟨e1, he1⟩ : ∃ e1, e1 = cDr bs m (nxQ m q) e0 := ⟨_, rfl⟩
  rw [<- he1] at hgr
  have hkeep := cDr_keep bs m (nxQ m q) e0
  rw [<- he1] at hkeep
  have hn1 : e1.np = 1 := by rw [hkeep.2.2.2.1, He0.out]; rfl
  have hn2 : e1.na = r3 := by rw [hkeep.2.2.2.2.2.1, He0.out, Hr3.out]; rfl
  have hp1 : e1.Pv = fun _ => x1T := by rw [hkeep.2.2.2.2.1, He0.out]; rfl
  have hp2 : e1.Av = auT := by rw [hkeep.2.2.2.2.2.2, He0.out]; rfl
  have hg5 : OwnG w5 (w.heap.size + 1) (.slice ga e1.ng cg) e1.ng e1.M e1.L := by
   rcases hgr with ⟨r1, r2, r3', _⟩ | hg
   ·have : e1.ng = 0 := by rw [r3', He0.out]; rfl
    rw [r1, r2, this]
    exact OwnG.nil _ _ _ _
   ·exact ⟨hg.1, hg.2.imp id fun ⟨g, c, cur, a1, a2, a3⟩ => ⟨g, c, cur, a1, by omega, a3⟩⟩
  have hqk : nxB bs m (nxQ m q) < 256 := hV2.dw.1.nx
  have hsm := cDr_small (e := e0) hqk (by rw [He0.out]; exact usr_small k) (by rw [He0.out]; show (0 : Nat) <= 100; decide) (by rw [He0.out]; show (0 : Nat) <= 100; decide) (fun i => by rw [He0.out]; show (0 : Nat) <= 100; decide)
  rw [<- he1] at hsm
  have hsid : e1.id.size <= 100 := by rw [hkeep.1, He0.out]; show ((⟨#[36]⟩ : ByteArray) ++ decB k).size <= 100; rw [ByteArray.size_append, <- Hdc.out]; show 1 + _ <= 100; omega
  have hssd : e1.sd.size <= 100 := by rw [hkeep.2.1, He0.out]; exact usr_small k
  have H15 : Hid (OwnT w5 (w.heap.size + 1) (.slice (some ⟨b1, 0, none⟩) e1.np 1) e1.np e1.Pv) := by unfold Hid; rw [hn1, hp1]; exact h15
  have H25 : Hid (OwnT w5 (w.heap.size + 1) (.slice (some ⟨b2, 0, none⟩) e1.na 2) e1.na e1.Av) := by unfold Hid; rw [hn2, hp2]; exact h25
  have Hg5 : Hid (_) := hg5
  have Hsz : Hid ((∀ i, (e1.Pv i).size <= 100) ∧ (∀ i, (e1.Av i).size <= 100) ∧ ∀ i, (e1.M i).size <= 100) := ⟨fun i => by rw [hp1]; show (3 : Nat) <= 100; decide, fun i => by rw [hp2]; exact auT_size i, hsm.2.2.2⟩
  have Hs5 : Hid (e1.id.size <= 100 ∧ e1.sd.size <= 100 ∧ e1.ty.size <= 100 ∧ e1.key.size <= 100 ∧ e1.val.size <= 100) := ⟨hsid, hssd, hsm.1, hsm.2.1, hsm.2.2.1⟩
  have He1 : Hid (e1 = cDr bs m (nxQ m q) e0) := he1
  have HV5 : Hid (_) := hV5
  have HgB : Hid (∀ b, (Value.slice ga e1.ng cg).ownBlock = some b -> b ≠ B) := fun b hb => by
   rcases hgr with ⟨r1, _⟩ | hg
   ·rw [r1] at hb; cases hb
   ·have := (ownsRow_blk hg b hb).1
    have := hV2.lt
    omega
  clear hgr hkeep hn1 hn2 hp1 hp2 hg5 hsm hsid hssd h15 h25 HV H1 H2 HD hV2 hd5 hV5 hqk c0 c1 c2 c3 c4 c5 c6 c7 c8 c9
  rw [<- he1]
  clear he1
  have hV5 := HV5.out
  have d0 : w5.cell? ⟨B, 0, none⟩ = some (.string ic) := hV5.b 0 (by decide)
  have d1 : w5.cell? ⟨B, 1, none⟩ = some (.string us) := hV5.b 1 (by decide)
  have d2 : w5.cell? ⟨B, 2, none⟩ = some (.string ⟨#[]⟩) := hV5.b 2 (by decide)
  have d3 : w5.cell? ⟨B, 3, none⟩ = some (.bool false) := hV5.b 3 (by decide)
  have d4 : w5.cell? ⟨B, 4, none⟩ = some (.string ⟨#[]⟩) := hV5.b 4 (by decide)
  have d5 : w5.cell? ⟨B, 5, none⟩ = some (.int .i64 km) := hV5.b 5 (by decide)
  have d6 : w5.cell? ⟨B, 6, none⟩ = some (.slice (some ⟨b1, 0, none⟩) 1 1) := hV5.b 6 (by decide)
  have d7 : w5.cell? ⟨B, 7, none⟩ = some (.slice (some ⟨b2, 0, none⟩) r3 2) := hV5.b 7 (by decide)
  have d8 : w5.cell? ⟨B, 8, none⟩ = some (.string ⟨#[]⟩) := hV5.b 8 (by decide)
  have d9 : w5.cell? ⟨B, 9, none⟩ = some (.slice none 0 0) := hV5.b 9 (by decide)
  have gf := hV5.f0
  obtain ⟨w6, hw6⟩ : ∃ w6 : World, w6 = fil10 w5 B (.string e1.id) (.string e1.sd) (.string e1.ty) (.bool e1.st) (.string e1.key) (.int .i64 e1.tm) (.slice (some ⟨b1, 0, none⟩) e1.np 1) (.slice (some ⟨b2, 0, none⟩) e1.na 2) (.string e1.val) (.slice ga e1.ng cg) := ⟨_, rfl⟩
  have HV6 : Hid (DeV p w w6 bs m (drEq bs m q) B (fun o => (#[.string e1.id, .string e1.sd, .string e1.ty, .bool e1.st, .string e1.key, .int .i64 e1.tm, .slice (some ⟨b1, 0, none⟩) e1.np 1, .slice (some ⟨b2, 0, none⟩) e1.na 2, .string e1.val, .slice ga e1.ng cg] : Array Value)[o]?.getD undef)) := by unfold Hid; rw [hw6]; exact hV5.fill hp (.string e1.id) (.string e1.sd) (.string e1.ty) (.bool e1.st) (.string e1.key) (.int .i64 e1.tm) (.slice (some ⟨b1, 0, none⟩) e1.np 1) (.slice (some ⟨b2, 0, none⟩) e1.na 2) (.string e1.val) (.slice ga e1.ng cg)
  have hK6 : Kb B w5 w6 := by rw [hw6]; exact fil10_kb _ _ _ _ _ _ _ _ _ _ _ _
  have H16 : Hid (OwnT w6 (w.heap.size + 1) (.slice (some ⟨b1, 0, none⟩) e1.np 1) e1.np e1.Pv) := ownK H15.out hK6 (fun e => Hne.out.2.1 (by injection e))
  have H26 : Hid (OwnT w6 (w.heap.size + 1) (.slice (some ⟨b2, 0, none⟩) e1.na 2) e1.na e1.Av) := ownK H25.out hK6 (fun e => Hne.out.2.2 (by injection e))
  have Hg6 : Hid (OwnG w6 (w.heap.size + 1) (.slice ga e1.ng cg) e1.ng e1.M e1.L) := ownK Hg5.out hK6 (fun e => HgB.out B e rfl)
  clear hV5 HV5 H15 H25 Hg5 HgB hK6
  unfold fil10 at hw6
  go_upto_region 4 with fail
  rw [<- hw6]
  clear hw6 gf d0 d1 d2 d3 d4 d5 d6 d7 d8 d9
  by_cases h8 : k % 9 = 8
  ·have h8i : (k : Int) % 9 = 8 := by omega
   have hV6 := HV6.out
   have d0 : w6.cell? ⟨B, 0, none⟩ = some (.string e1.id) := hV6.b 0 (by decide)
   have d1 : w6.cell? ⟨B, 1, none⟩ = some (.string e1.sd) := hV6.b 1 (by decide)
   have d2 : w6.cell? ⟨B, 2, none⟩ = some (.string e1.ty) := hV6.b 2 (by decide)
   have d3 : w6.cell? ⟨B, 3, none⟩ = some (.bool e1.st) := hV6.b 3 (by decide)
   have d4 : w6.cell? ⟨B, 4, none⟩ = some (.string e1.key) := hV6.b 4 (by decide)
   have d5 : w6.cell? ⟨B, 5, none⟩ = some (.int .i64 e1.tm) := hV6.b 5 (by decide)
   have d6 : w6.cell? ⟨B, 6, none⟩ = some (.slice (some ⟨b1, 0, none⟩) e1.np 1) := hV6.b 6 (by decide)
   have d7 : w6.cell? ⟨B, 7, none⟩ = some (.slice (some ⟨b2, 0, none⟩) e1.na 2) := hV6.b 7 (by decide)
   have d8 : w6.cell? ⟨B, 8, none⟩ = some (.string e1.val) := hV6.b 8 (by decide)
   have d9 : w6.cell? ⟨B, 9, none⟩ = some (.slice ga e1.ng cg) := hV6.b 9 (by decide)
   have gf := hV6.f0
   obtain ⟨w7, hw7⟩ : ∃ w7 : World, w7 = fil10 w6 B (.string ⟨#[36, 99]⟩) (.string ⟨#[64, 97]⟩) (.string ⟨#[99, 114, 101, 97, 116, 101]⟩) (.bool true) (.string ⟨#[]⟩) (.int .i64 0) (.slice none 0 0) (.slice none 0 0) (.string ⟨#[]⟩) (.slice none 0 0) := ⟨_, rfl⟩
   have HV7 : Hid (DeV p w w7 bs m (drEq bs m q) B (fun o => (#[.string ⟨#[36, 99]⟩, .string ⟨#[64, 97]⟩, .string ⟨#[99, 114, 101, 97, 116, 101]⟩, .bool true, .string ⟨#[]⟩, .int .i64 0, .slice none 0 0, .slice none 0 0, .string ⟨#[]⟩, .slice none 0 0] : Array Value)[o]?.getD undef)) := by unfold Hid; rw [hw7]; exact hV6.fill hp (.string ⟨#[36, 99]⟩) (.string ⟨#[64, 97]⟩) (.string ⟨#[99, 114, 101, 97, 116, 101]⟩) (.bool true) (.string ⟨#[]⟩) (.int .i64 0) (.slice none 0 0) (.slice none 0 0) (.string ⟨#[]⟩) (.slice none 0 0)
   have hev : drEv bs m q = evCr := by unfold drEv; rw [<- Hk.out, if_pos h8]
   have HP : Hid (DePost p w bs m q (.returned (.agg #[.string ⟨#[36, 99]⟩, .string ⟨#[64, 97]⟩, .string ⟨#[99, 114, 101, 97, 116, 101]⟩, .bool true, .string ⟨#[]⟩, .int .i64 0, .slice none 0 0, .slice none 0 0, .string ⟨#[]⟩, .slice none 0 0])) (fil10 w7 w.heap.size (.string ⟨#[36, 99]⟩) (.string ⟨#[64, 97]⟩) (.string ⟨#[99, 114, 101, 97, 116, 101]⟩) (.bool true) (.string ⟨#[]⟩) (.int .i64 0) (.slice none 0 0) (.slice none 0 0) (.string ⟨#[]⟩) (.slice none 0 0))) := by
    have hb7 := HV7.out.lt
    have hdw : DwF p w (fil10 w7 w.heap.size (.string ⟨#[36, 99]⟩) (.string ⟨#[64, 97]⟩) (.string ⟨#[99, 114, 101, 97, 116, 101]⟩) (.bool true) (.string ⟨#[]⟩) (.int .i64 0) (.slice none 0 0) (.slice none 0 0) (.string ⟨#[]⟩) (.slice none 0 0)) bs m (drEq bs m q) := by
     unfold fil10
     iterate 10 (refine DwF.own ?_ (Nat.le_refl _) hp _ _)
     exact HV7.out.dw
    have hs := HV7.out.lo
    refine ⟨⟨none, 0, none, 0, none, 0, w.heap.size + 1, w.heap.size + 1, w.heap.size + 1, (fil10 w7 w.heap.size (.string ⟨#[36, 99]⟩) (.string ⟨#[64, 97]⟩) (.string ⟨#[99, 114, 101, 97, 116, 101]⟩) (.bool true) (.string ⟨#[]⟩) (.int .i64 0) (.slice none 0 0) (.slice none 0 0) (.string ⟨#[]⟩) (.slice none 0 0)).heap.size⟩, by rw [hev]; rfl, ?_, by show w.heap.size <= w.heap.size + 1; omega, hdw⟩
    rw [hev]
    have hz : w.heap.size + 1 <= (fil10 w7 w.heap.size (.string ⟨#[36, 99]⟩) (.string ⟨#[64, 97]⟩) (.string ⟨#[99, 114, 101, 97, 116, 101]⟩) (.bool true) (.string ⟨#[]⟩) (.int .i64 0) (.slice none 0 0) (.slice none 0 0) (.string ⟨#[]⟩) (.slice none 0 0)).heap.size := by
     have := (fil10_kb w7 w.heap.size (.string ⟨#[36, 99]⟩) (.string ⟨#[64, 97]⟩) (.string ⟨#[99, 114, 101, 97, 116, 101]⟩) (.bool true) (.string ⟨#[]⟩) (.int .i64 0) (.slice none 0 0) (.slice none 0 0) (.string ⟨#[]⟩) (.slice none 0 0)).1
     omega
    exact qo_of hz (OwnT.nil _ _ _) (OwnT.nil _ _ _) (OwnG.nil _ _ _ _) (fun b hb => by cases hb) ⟨by decide, by decide, by decide, by decide, by decide⟩ (fun i hi => absurd hi (Nat.not_lt_zero _)) (fun i hi => absurd hi (Nat.not_lt_zero _)) (fun i hi => absurd hi (Nat.not_lt_zero _))
   clear hV6 hev HV6 H16 H26 Hg6
   unfold fil10 at hw7 HP
   go_upto_region 6 with fail
   rw [<- hw7]
   clear hw7 gf d0 d1 d2 d3 d4 d5 d6 d7 d8 d9
   have hV7 := HV7.out
   have c0 : w7.cell? ⟨B, 0, none⟩ = some (.string ⟨#[36, 99]⟩) := hV7.b 0 (by decide)
   have c1 : w7.cell? ⟨B, 1, none⟩ = some (.string ⟨#[64, 97]⟩) := hV7.b 1 (by decide)
   have c2 : w7.cell? ⟨B, 2, none⟩ = some (.string ⟨#[99, 114, 101, 97, 116, 101]⟩) := hV7.b 2 (by decide)
   have c3 : w7.cell? ⟨B, 3, none⟩ = some (.bool true) := hV7.b 3 (by decide)
   have c4 : w7.cell? ⟨B, 4, none⟩ = some (.string ⟨#[]⟩) := hV7.b 4 (by decide)
   have c5 : w7.cell? ⟨B, 5, none⟩ = some (.int .i64 0) := hV7.b 5 (by decide)
   have c6 : w7.cell? ⟨B, 6, none⟩ = some (.slice none 0 0) := hV7.b 6 (by decide)
   have c7 : w7.cell? ⟨B, 7, none⟩ = some (.slice none 0 0) := hV7.b 7 (by decide)
   have c8 : w7.cell? ⟨B, 8, none⟩ = some (.string ⟨#[]⟩) := hV7.b 8 (by decide)
   have c9 : w7.cell? ⟨B, 9, none⟩ = some (.slice none 0 0) := hV7.b 9 (by decide)
   obtain ⟨v0, y0⟩ := hV7.z 0 (by decide)
   obtain ⟨v1, y1⟩ := hV7.z 1 (by decide)
   obtain ⟨v2, y2⟩ := hV7.z 2 (by decide)
   obtain ⟨v3, y3⟩ := hV7.z 3 (by decide)
   obtain ⟨v4, y4⟩ := hV7.z 4 (by decide)
   obtain ⟨v5, y5⟩ := hV7.z 5 (by decide)
   obtain ⟨v6, y6⟩ := hV7.z 6 (by decide)
   obtain ⟨v7, y7⟩ := hV7.z 7 (by decide)
   obtain ⟨v8, y8⟩ := hV7.z 8 (by decide)
   obtain ⟨v9, y9⟩ := hV7.z 9 (by decide)
   have g1 := hV7.f1
   go_wp2_with fail
   refine bodyPost_ret (v := .agg #[.string ⟨#[36, 99]⟩, .string ⟨#[64, 97]⟩, .string ⟨#[99, 114, 101, 97, 116, 101]⟩, .bool true, .string ⟨#[]⟩, .int .i64 0, .slice none 0 0, .slice none 0 0, .string ⟨#[]⟩, .slice none 0 0]) (by simp [results, Tryd.results12, go_sem, y0, y1, y2, y3, y4, y5, y6, y7, y8, y9]) rfl ?_
   exact HP.out
  ·have h8i : ¬ (k : Int) % 9 = 8 := by omega
   have hev : drEv bs m q = e1 := by unfold drEv; rw [<- Hk.out, if_neg h8, He1.out, He0.out]
   have HP : Hid (DePost p w bs m q (.returned (.agg #[.string e1.id, .string e1.sd, .string e1.ty, .bool e1.st, .string e1.key, .int .i64 e1.tm, .slice (some ⟨b1, 0, none⟩) e1.np 1, .slice (some ⟨b2, 0, none⟩) e1.na 2, .string e1.val, .slice ga e1.ng cg])) (fil10 w6 w.heap.size (.string e1.id) (.string e1.sd) (.string e1.ty) (.bool e1.st) (.string e1.key) (.int .i64 e1.tm) (.slice (some ⟨b1, 0, none⟩) e1.np 1) (.slice (some ⟨b2, 0, none⟩) e1.na 2) (.string e1.val) (.slice ga e1.ng cg))) := by
    have hb6 := HV6.out.lt
    have hdw : DwF p w (fil10 w6 w.heap.size (.string e1.id) (.string e1.sd) (.string e1.ty) (.bool e1.st) (.string e1.key) (.int .i64 e1.tm) (.slice (some ⟨b1, 0, none⟩) e1.np 1) (.slice (some ⟨b2, 0, none⟩) e1.na 2) (.string e1.val) (.slice ga e1.ng cg)) bs m (drEq bs m q) := by
     unfold fil10
     iterate 10 (refine DwF.own ?_ (Nat.le_refl _) hp _ _)
     exact HV6.out.dw
    have hs := HV6.out.lo
    have hK := fil10_kb w6 w.heap.size (.string e1.id) (.string e1.sd) (.string e1.ty) (.bool e1.st) (.string e1.key) (.int .i64 e1.tm) (.slice (some ⟨b1, 0, none⟩) e1.np 1) (.slice (some ⟨b2, 0, none⟩) e1.na 2) (.string e1.val) (.slice ga e1.ng cg)
    have ne : ∀ {base st n : Nat} {t : TypeId} {v : Value} {xs : List Value}, w6.ownsRow (w.heap.size + 1) t st v n xs -> v.ownBlock ≠ some w.heap.size := fun h e => by have := (ownsRow_blk h _ e).1; omega
    refine ⟨⟨some ⟨b1, 0, none⟩, 1, some ⟨b2, 0, none⟩, 2, ga, cg, w.heap.size + 1, w.heap.size + 1, w.heap.size + 1, (fil10 w6 w.heap.size (.string e1.id) (.string e1.sd) (.string e1.ty) (.bool e1.st) (.string e1.key) (.int .i64 e1.tm) (.slice (some ⟨b1, 0, none⟩) e1.np 1) (.slice (some ⟨b2, 0, none⟩) e1.na 2) (.string e1.val) (.slice ga e1.ng cg)).heap.size⟩, by rw [hev], ?_, by show w.heap.size <= w.heap.size + 1; omega, hdw⟩
    rw [hev]
    have hz : w.heap.size + 1 <= (fil10 w6 w.heap.size (.string e1.id) (.string e1.sd) (.string e1.ty) (.bool e1.st) (.string e1.key) (.int .i64 e1.tm) (.slice (some ⟨b1, 0, none⟩) e1.np 1) (.slice (some ⟨b2, 0, none⟩) e1.na 2) (.string e1.val) (.slice ga e1.ng cg)).heap.size := by
     have := hK.1
     omega
    have h100 : ∀ {n : Nat}, n <= 100 -> n <= maxLen := fun h => Nat.le_trans h (by decide)
    exact qo_of hz (ownK H16.out hK (ne (base := 0) H16.out)) (ownK H26.out hK (ne (base := 0) H26.out)) (ownK Hg6.out hK (ne (base := 0) Hg6.out)) (fun b h1 h2 => Hne.out.1 ((Option.some.inj h1).trans (Option.some.inj h2).symm)) ⟨h100 Hs5.out.1, h100 Hs5.out.2.1, h100 Hs5.out.2.2.1, h100 Hs5.out.2.2.2.1, h100 Hs5.out.2.2.2.2⟩ (fun i _ => h100 (Hsz.out.1 i)) (fun i _ => h100 (Hsz.out.2.1 i)) (fun i _ => h100 (Hsz.out.2.2 i))
   clear hev H16 H26 Hg6
   unfold fil10 at HP
   have hV6 := HV6.out
   have c0 : w6.cell? ⟨B, 0, none⟩ = some (.string e1.id) := hV6.b 0 (by decide)
   have c1 : w6.cell? ⟨B, 1, none⟩ = some (.string e1.sd) := hV6.b 1 (by decide)
   have c2 : w6.cell? ⟨B, 2, none⟩ = some (.string e1.ty) := hV6.b 2 (by decide)
   have c3 : w6.cell? ⟨B, 3, none⟩ = some (.bool e1.st) := hV6.b 3 (by decide)
   have c4 : w6.cell? ⟨B, 4, none⟩ = some (.string e1.key) := hV6.b 4 (by decide)
   have c5 : w6.cell? ⟨B, 5, none⟩ = some (.int .i64 e1.tm) := hV6.b 5 (by decide)
   have c6 : w6.cell? ⟨B, 6, none⟩ = some (.slice (some ⟨b1, 0, none⟩) e1.np 1) := hV6.b 6 (by decide)
   have c7 : w6.cell? ⟨B, 7, none⟩ = some (.slice (some ⟨b2, 0, none⟩) e1.na 2) := hV6.b 7 (by decide)
   have c8 : w6.cell? ⟨B, 8, none⟩ = some (.string e1.val) := hV6.b 8 (by decide)
   have c9 : w6.cell? ⟨B, 9, none⟩ = some (.slice ga e1.ng cg) := hV6.b 9 (by decide)
   obtain ⟨v0, y0⟩ := hV6.z 0 (by decide)
   obtain ⟨v1, y1⟩ := hV6.z 1 (by decide)
   obtain ⟨v2, y2⟩ := hV6.z 2 (by decide)
   obtain ⟨v3, y3⟩ := hV6.z 3 (by decide)
   obtain ⟨v4, y4⟩ := hV6.z 4 (by decide)
   obtain ⟨v5, y5⟩ := hV6.z 5 (by decide)
   obtain ⟨v6, y6⟩ := hV6.z 6 (by decide)
   obtain ⟨v7, y7⟩ := hV6.z 7 (by decide)
   obtain ⟨v8, y8⟩ := hV6.z 8 (by decide)
   obtain ⟨v9, y9⟩ := hV6.z 9 (by decide)
   have g1 := hV6.f1
   go_wp2_with fail
   refine bodyPost_ret (v := .agg #[.string e1.id, .string e1.sd, .string e1.ty, .bool e1.st, .string e1.key, .int .i64 e1.tm, .slice (some ⟨b1, 0, none⟩) e1.np 1, .slice (some ⟨b2, 0, none⟩) e1.na 2, .string e1.val, .slice ga e1.ng cg]) (by simp [results, Tryd.results12, go_sem, y0, y1, y2, y3, y4, y5, y6, y7, y8, y9]) rfl ?_
   exact HP.out
end Go.Proofs.YtihacnhmiopalaaDoor
