import Derived.Test.YtgocjlpbokhoeaaMpE
import Derived.Test.YtgocjlpbokhoeaaSrtI
import Derived.Test.YtgocjlpbokhoeaaAmI
import Derived.Sort.OwnSorted
import Derived.Test.YtgocjlpbokhoeaaEntM
import Derived.OwnWalk
import Derived.Test.YtgocjlpbokhoeaaProg
import Derived.Laws.BytesArg
import Derived.Test.YtgocjlpbokhoeaaOwnM
import Derived.Lib.ItoaLen
import Derived.Deep.DeepFit
import Derived.Test.YtgocjlpbokhoeaaDlPM
namespace Go.Proofs.Ytgocjlpbokhoeaa
open Go.RowKit Go.Maps Go.ChangeMaps
theorem ownE_grown {w w' : World} {base : Nat} {v : Value} {l : List Ent} {row : Option Nat} (h : OwnE w base v l) (hg : w.grownBy w' row) (hne : ∀ q, v.ownBlock = some q → some q ≠ row) : OwnE w' base v l := by
  obtain ⟨h1, h2⟩ := h
  refine ⟨h1, ?_⟩
  rcases h2 with h2 | ⟨g, cap, cur, hv, hg2, hh, r⟩
  · exact Or.inl h2
  · have hlt : g < w.heap.size := (Array.getElem?_eq_some_iff.1 hh).1
    exact Or.inr ⟨g, cap, cur, hv, hg2, by rw [hg.block g hlt (hne g (by rw [hv]; rfl))]; exact hh, r⟩
theorem rng_apart {w : World} {base : Nat} {v : Value} {l : List Ent} {m r n : Nat} {F : Ent → Option Ent} {Lf : Ent → Bool} {cnt : Nat} (h : OwnE w base v l) (hr : RngE w m r n F Lf cnt) : some m ≠ v.ownBlock ∧ some r ≠ v.ownBlock := by
  obtain ⟨D, left, h1, _⟩ := hr
  refine ⟨fun e => ?_, row_ne_iter h h1⟩
  obtain ⟨es, clock, hb, _⟩ := h1.owns
  rcases h.2 with ⟨rfl, _⟩ | ⟨g, cap, cur, rfl, _, hh, _⟩
  · cases e
  · have : m = g := by injection e
    subst this
    rw [hb] at hh
    cases hh
theorem RngE.resp {w : World} {m r n : Nat} {F : Ent → Option Ent} {Lf : Ent → Bool} {cnt : Nat} (h : RngE w m r n F Lf cnt) {s t : Ent} (hs : SOk s) (ht : SOk t) (e : s.ty = t.ty ∧ s.key = t.key) : Lf s = Lf t := by
  obtain ⟨D, left, _, _, h3, _⟩ := h
  rw [← h3 s hs, ← h3 t ht, (slotL_iff hs ht).2 e]
theorem make_entC (n : Nat) (h : n * 48 ≤ 140737488351232) (W : World) :
    (Instr.makeSlice 26 (.int .i64 0) (.int .i64 (n : Int))).run Try.prog W = .ok (.slice (some ⟨W.heap.size, 0, none⟩) 0 n) (W.alloc (.cells (mkE n) 38)) := by
  obtain ⟨i0, hi, hz0, hz1, hz2⟩ := info_parts Try.infoEntry
  have := run_make (P := Try.prog) W 26 38 i0 (.agg #[.string ByteArray.empty, .string ByteArray.empty, .string ByteArray.empty]) Try.underlying26 hi hz0 .i64 .i64 0 (n : Int) (by omega) (by omega) (by rw [hz2]; omega) (by omega)
  rw [this, hz1]
  simp [mkE, Value.cells]
theorem OwnE.made (w : World) (base m : Nat) (hm : m ≤ maxLen) (hb : base ≤ w.heap.size) : OwnE (w.alloc (.cells (mkE m) 38)) base (.slice (some ⟨w.heap.size, 0, none⟩) 0 m) [] :=
  ⟨rfl, Or.inr ⟨w.heap.size, m, mkE m, rfl, hb, by show (w.heap.push _)[w.heap.size]? = _; simp, Nat.zero_le _, hm, mkE_size m, by simp [encL]⟩⟩
def Fit1 (F : Ent → Option Ent) : Prop := ∀ s e, F s = some e → e.ty = s.ty ∧ e.key = s.key
def Acc (F : Ent → Option Ent) (Lf : Ent → Bool) (acc : List Ent) : Prop := (∀ x, x ∈ acc ↔ ∃ s, SOk s ∧ Lf s = false ∧ F s = some x) ∧ acc.Pairwise fun a b => ¬ (a.ty = b.ty ∧ a.key = b.key)
theorem Acc.snoc {w : World} {m r n cnt : Nat} {F : Ent → Option Ent} {Lf : Ent → Bool} {acc : List Ent} (h : Acc F Lf acc) (hR : RngE w m r n F Lf cnt) (hF : Resp F) (hfit : Fit1 F) {s e : Ent} (hs : SOk s) (hl : Lf s = true) (he : F s = some e) :
    Acc F (fun t => Lf t && !samB s t) (acc ++ [e]) := by
  have hes := hfit s e he
  refine ⟨fun x => ?_, ?_⟩
  · rw [List.mem_append, List.mem_singleton, h.1 x]
    constructor
    · rintro (⟨t, h1, h2, h3⟩ | rfl)
      · exact ⟨t, h1, by show (Lf t && !samB s t) = false; rw [h2, Bool.false_and], h3⟩
      · exact ⟨s, hs, by show (Lf s && !samB s s) = false; rw [(samB_iff s s).2 ⟨rfl, rfl⟩]; simp, he⟩
    · rintro ⟨t, h1, h2', h3⟩
      have h2 : (Lf t && !samB s t) = false := h2'
      cases hq : samB s t
      · rw [hq] at h2
        exact Or.inl ⟨t, h1, by simpa using h2, h3⟩
      · obtain ⟨e1, e2⟩ := (samB_iff _ _).1 hq
        rw [← hF s t e1 e2, he] at h3
        injection h3 with h3
        exact Or.inr h3.symm
  · refine List.pairwise_append.2 ⟨h.2, List.pairwise_singleton _ _, fun a ha b hb => ?_⟩
    rw [List.mem_singleton] at hb
    subst hb
    intro hab
    obtain ⟨t, h1, h2, h3⟩ := (h.1 a).1 ha
    have hat := hfit t a h3
    have := hR.resp hs h1 ⟨hes.1.symm.trans (hab.1.symm.trans hat.1), hes.2.symm.trans (hab.2.symm.trans hat.2)⟩
    rw [hl, h2] at this
    cases this
theorem sorted_srt {l' acc : List Ent} (hp : l'.Perm acc) (hs : l'.Pairwise fun a b => ¬ Lt b a) (hd : acc.Pairwise fun a b => ¬ (a.ty = b.ty ∧ a.key = b.key)) : SrtE l' := by
  have hd' : l'.Pairwise fun a b => ¬ (a.ty = b.ty ∧ a.key = b.key) := (hp.pairwise_iff (fun {a b} h e => h ⟨e.1.symm, e.2.symm⟩)).2 hd
  refine List.Pairwise.imp₂ (fun a b h1 h2 => ?_) hs hd'
  rcases tri a b with ⟨h, _⟩ | ⟨h, _⟩ | ⟨h, _⟩
  · exact h
  · exact absurd h h2
  · exact absurd h h1
set_option maxRecDepth 100000 in
set_option maxHeartbeats 2000000 in
theorem inSl_any {m n : Nat} {F : Ent → Option Ent} {T : List Ent} (w : World) (hM : MapE w m n F) (hF : Resp F) (hfit : Fit1 F) (hn : n ≤ 1000000) (hT : SrtE T) (hTm : ∀ x, x ∈ T ↔ ∃ s, SOk s ∧ F s = some x) (hTok : AllOk T) :
    Calls Try.prog 56 #[.map (some m)] w fun e w' => ∃ v, e = .returned v ∧ OwnE w' w.heap.size v T ∧ Below w.heap.size w w' := by
  obtain ⟨i0, hi, hz0, hz1, hz2⟩ := info_parts Try.infoEntry
  have HF : Hid (Resp F) := hF
  have Hfit : Hid (Fit1 F) := hfit
  have HT : Hid (SrtE T ∧ AllOk T ∧ ∀ x, x ∈ T ↔ ∃ s, SOk s ∧ F s = some x) := ⟨hT, hTok, hTm⟩
  have hmlt := hM.lt
  obtain ⟨D, hown, hKD⟩ := hM
  have hsz := hown.size_le
  have Hmap : Hid (MapE w m n F) := ⟨D, hown, hKD⟩
  clear hF hfit hT hTm hTok hKD
  have hmk := make_entC (Maps.size D) (by omega) w
  obtain ⟨wm, hwm⟩ : ∃ wm, wm = w.alloc (.cells (mkE (Maps.size D)) 38) := ⟨_, rfl⟩
  rw [← hwm] at hmk
  have hbm : Below w.heap.size w wm := by rw [hwm]; exact (Below.refl _ _).alloc (Nat.le_refl _) _
  have Hown0 : Hid (OwnE wm w.heap.size (.slice (some ⟨w.heap.size, 0, none⟩) 0 (Maps.size D)) []) := by rw [hwm]; exact OwnE.made w _ _ (by unfold maxLen; omega) (Nat.le_refl _)
  obtain ⟨ws, cnt0, hrs, hR0, hbs, hss, hc0⟩ := rng_start (Hmap.out.below hbm)
  have Hown1 : Hid (OwnE ws w.heap.size (.slice (some ⟨w.heap.size, 0, none⟩) 0 (Maps.size D)) []) := Hown0.out.below hbs
  have hbws := hbm.trans (hbs.mono hbm.size)
  have HA0 : Hid (Acc F (fun s => (F s).isSome) []) := ⟨fun x => ⟨fun h => (by cases h), fun ⟨s, _, h1, h2⟩ => (by simp only [h2] at h1; cases h1)⟩, List.Pairwise.nil⟩
  have hwms : wm.heap.size = w.heap.size + 1 := by rw [hwm]; simp
  rw [hwms] at hrs hR0
  have HR0 : Hid (RngE ws m (w.heap.size + 1) n F (fun s => (F s).isSome) cnt0) := hR0
  clear hR0 Hown0 hwm hwms
  go_enter Try.func56, Try.ntmps56
  go_wp2_with (at_len; refine wpList_len_own _ rfl _ 87 rfl 69 38 Try.underlying87 _ m n D rfl hown ?_)
  clear hmk hrs hown
  go_loopg [3] n (fun g v wr => ∃ (acc : List Ent) (Lf : Ent → Bool) (cnt : Nat) (va : Option Addr) (vc : Nat), v = .slice va acc.length vc ∧ cnt ≤ g ∧ acc.length + cnt ≤ n ∧ Hid (RngE wr m (w.heap.size + 1) n F Lf cnt) ∧ Hid (OwnE wr w.heap.size v acc) ∧ Hid (Acc F Lf acc) ∧ Below w.heap.size w wr)
  case atStart => exact ⟨[], _, cnt0, _, _, rfl, hc0, by simpa using hc0, HR0, Hown1, HA0, hbws⟩
  case round =>
    clear HR0 Hown1 HA0 Hmap
    obtain ⟨acc, Lf, cnt, va, vc, rfl, hcg, hcn, HR, Hown, HA, hbr⟩ := hrel
    rcases rng_next HR.out with ⟨_, hdone, hrun⟩ | ⟨s, e, w1, cnt1, hs, hl, he, hrun, hR1, hc1, hgr1, hsz1, hen⟩
    · have hall : Hid (∀ x, x ∈ acc ↔ x ∈ T) := fun x => by
        rw [HA.out.1 x, HT.out.2.2 x]
        exact ⟨fun ⟨s, h1, _, h3⟩ => ⟨s, h1, h3⟩, fun ⟨s, h1, h3⟩ => ⟨s, h1, hdone s h1, h3⟩⟩
      have Hso : Hid (Calls Try.prog 65 #[.slice va acc.length vc, .func (.func 64) #[] #[]] wr (SoPost wr w.heap.size (.slice va acc.length vc) acc)) := sortE_own Hown.out (by omega)
      clear hdone
      go_wp2_with fail
      refine (Hso.out).mono ?_
      rintro e w2 ⟨rfl, l', hown2, hperm, hsrt, hgr2⟩
      have hl' : l' = T := srt_ext (sorted_srt hperm hsrt HA.out.2) HT.out.1 (fun x => by rw [hperm.mem_iff]; exact hall.out x)
      subst hl'
      have hb2 : Below w.heap.size w w2 := hbr.grown hgr2 hbr.size (fun q hq => Hown.out.row q hq)
      clear hrun hperm hsrt hgr2
      go_wp2
      go_ret
      exact ⟨_, rfl, hown2, hb2⟩
    · have hne := rng_apart Hown.out HR.out
      have hown1 : OwnE w1 w.heap.size (.slice va acc.length vc) acc := ownE_grown Hown.out hgr1 (fun q hq e => hne.2 (by rw [hq, ← e]))
      have hA1 : Hid (Acc F (fun t => Lf t && !samB s t) (acc ++ [e])) := HA.out.snoc HR.out HF.out Hfit.out hs hl he
      have hok1 : Hid (AllOk (acc ++ [e])) := fun x hx => by
        obtain ⟨t, h1, _, h3⟩ := (hA1.out.1 x).1 hx
        exact HT.out.2.1 x ((HT.out.2.2 x).2 ⟨t, h1, h3⟩)
      have hR2 : Hid (RngE w1 m (w.heap.size + 1) n F (fun t => Lf t && !samB s t) cnt1) := hR1
      have hb1 : Below w.heap.size w w1 := hbr.grown hgr1 hbr.size (fun q hq => by injection hq with hq; omega)
      have hm1 : acc.length + 1 ≤ maxLen := by unfold maxLen; omega
      have hm2 : (acc.length + 1) * 48 ≤ 140737488355328 := by omega
      have hm3 : ∀ o o2, w.heap.size ≤ ((w1.alloc o).alloc o2).heap.size := fun o o2 => by have := hb1.size; simp; omega
      have hrow := hown1.row
      have hcl : ∀ j u, (encE e)[j]? = some u → ((w1.alloc (.cells #[.string e.ty, .string e.key, .string e.id] 38)).alloc (.cells #[.string e.ty, .string e.key, .string e.id] 38)).cell? ((⟨w1.heap.size + 1, 0, none⟩ : Addr).add j) = some u := by have := encE_cells (w1.alloc (.cells #[.string e.ty, .string e.key, .string e.id] 38)) e 38; rw [World.size_alloc] at this; exact this
      have Hne : Hid (some m ≠ (Value.slice va acc.length vc).ownBlock ∧ some (w.heap.size + 1) ≠ (Value.slice va acc.length vc).ownBlock) := hne
      clear HR HA Hown hgr1 hne hs hl he hR1 hsz1
      go_wp2_with (at_builtin; refine wpList_append_own _ rfl _ _ 26 rfl w.heap.size 38 i0 (.agg #[.string ByteArray.empty, .string ByteArray.empty, .string ByteArray.empty]) 3 48 Try.underlying26 hi hz0 hz1 hz2 rfl (by decide) _ _ _ rfl ((hown1.alloc _).alloc _) ⟨w1.heap.size + 1, 0, none⟩ 1 1 (encE e) rfl rfl hcl (encE_one _) hm1 hm2 (hm3 _ _) ?_; intro v2 w2 hown2 hgrow2 _)
      have hgrow3 : ((w1.alloc (.cells #[.string e.ty, .string e.key, .string e.id] 38)).alloc (.cells #[.string e.ty, .string e.key, .string e.id] 38)).grownBy w2 (Value.slice va acc.length vc).ownBlock := hgrow2
      have hbAA : Below w1.heap.size w1 ((w1.alloc (.cells #[.string e.ty, .string e.key, .string e.id] 38)).alloc (.cells #[.string e.ty, .string e.key, .string e.id] 38)) := ((Below.refl _ _).alloc (Nat.le_refl _) _).alloc (by simp) _
      have hR3 : Hid (RngE w2 m (w.heap.size + 1) n F (fun t => Lf t && !samB s t) cnt1) := (hR2.out.below hbAA).grown hgrow3 Hne.out.1 Hne.out.2
      have hb2 : Below w.heap.size w w2 := (hb1.trans (hbAA.mono hb1.size)).grown hgrow3 (hm3 _ _) (fun q hq => hrow q hq)
      have hown3 := OwnE.snoc (l := acc) hown2 rfl
      obtain ⟨va2, vc2, rfl, _⟩ := hown3.sl hok1.out.at
      have Hown3 : Hid (_) := hown3
      clear hown2 hgrow2 hgrow3 hown3 hrun hen
      go_wp2
      go_roundg cnt1
      case measure => omega
      case rel => exact ⟨acc ++ [e], _, cnt1, va2, vc2, rfl, Nat.le_refl _, by rw [List.length_append, List.length_singleton]; omega, hR3, Hown3, hA1, hb2⟩
end Go.Proofs.Ytgocjlpbokhoeaa
namespace Go.Proofs.Ytgocjlpbokhoeaa
open Go.RowKit
def Wr0 (w : World) (lo : Nat) (a : Option Addr) (n : Nat) : Prop :=
  n = 0 ∨ ∃ b off, a = some ⟨b, off, none⟩ ∧ lo ≤ b ∧ b < w.heap.size ∧ ∀ i, i < n → (∃ v, w.cell? ⟨b, off + i, none⟩ = some v) ∧ w.frozen? ⟨b, off + i, none⟩ = false
end Go.Proofs.Ytgocjlpbokhoeaa
namespace Go.Proofs.Ytgocjlpbokhoeaa
open Go.RowKit
theorem strOfNums_one (n : Nat) : strOfNums [(n : Int)] = ⟨#[UInt8.ofNat n]⟩ := by
  simp [strOfNums]
theorem conv_one (W : World) (B n : Nat) (hc : W.cell? ⟨B, 0, none⟩ = some (.int .u8 (n : Int))) :
    (convert 22 9 (.slice (some ⟨B, 0, none⟩) 1 1)).run Try.prog W = .ok (.string ⟨#[UInt8.ofNat n]⟩) W := by
  rw [run_convert_bytes_arg W 22 5 Try.underlying22 Try.underlying5 B 0 1 1 [(n : Int)] rfl (fun i hi => by
    have : i = 0 := by omega
    subst this; exact hc) 9 Try.underlying9, strOfNums_one n]
end Go.Proofs.Ytgocjlpbokhoeaa
namespace Go.Proofs.Ytgocjlpbokhoeaa
open Go.RowKit
theorem OwnE.wr0 {w : World} {base : Nat} {v : Value} {l : List Ent} (h : OwnE w base v l) {a : Option Addr} {n cap : Nat} (e : v = .slice a n cap) : Wr0 w base a (l.length * 3) := by
  subst e
  obtain ⟨h1, h2⟩ := h
  rcases h2 with ⟨e, h0⟩ | ⟨g, cap', cur, e, hg, hh, hn, hc, hcs, hx⟩
  · exact Or.inl (by omega)
  · injection e with e1 _ _
    have hlt : g < w.heap.size := (Array.getElem?_eq_some_iff.1 hh).1
    refine Or.inr ⟨g, 0, e1, hg, hlt, fun i hi => ⟨⟨cur[i]'(by omega), ?_⟩, by simp [World.frozen?, hh]⟩⟩
    simp [World.cell?, hh, show i < cur.size by omega]
def AnsE (L : List Ent) (q : Bool) (w : World) (e : Ending) (w' : World) : Prop := Below w.heap.size w w' ∧
  ∃ a cap, e = .returned (.tuple #[.slice a L.length cap, .bool q]) ∧ SlE w' a cap L ∧ Wr0 w' w.heap.size a (L.length * 3)
theorem ansE_of {w w' : World} {v : Value} {L : List Ent} (q : Bool) (hb : Below w.heap.size w w') (ho : OwnE w' w.heap.size v L) (hs : AllOk L) : AnsE L q w (.returned (.tuple #[v, .bool q])) w' := by
  obtain ⟨a, cap, rfl, h1⟩ := ho.sl hs.at
  exact ⟨hb, a, cap, rfl, h1, ho.wr0 rfl⟩
end Go.Proofs.Ytgocjlpbokhoeaa
