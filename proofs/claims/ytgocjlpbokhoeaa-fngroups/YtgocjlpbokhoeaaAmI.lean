import Derived.Test.YtgocjlpbokhoeaaMpE
import Derived.Test.YtgocjlpbokhoeaaLyO
namespace Go.Proofs.Ytgocjlpbokhoeaa
open Go.RowKit
def orF (F : Ent → Option Ent) (S : List Ent) : Ent → Option Ent := fun s => (F s).or (lookE S s)
def Resp (F : Ent → Option Ent) : Prop := ∀ s t : Ent, s.ty = t.ty → s.key = t.key → F s = F t
theorem lookE_resp (S : List Ent) : Resp (lookE S) := fun s t h1 h2 => by
  unfold lookE
  congr 1
  funext x
  unfold samB
  rw [h1, h2]
theorem Resp.or {F : Ent → Option Ent} (h : Resp F) (S : List Ent) : Resp (orF F S) := fun s t h1 h2 => by
  unfold orF
  rw [h s t h1 h2, lookE_resp S s t h1 h2]
theorem look_snoc (S : List Ent) (e s : Ent) : lookE (S ++ [e]) s = (lookE S s).or (if samB e s = true then some e else none) := by
  unfold lookE
  rw [List.find?_append]
  congr 1
  rw [List.find?_cons]
  cases samB e s <;> rfl
theorem or_skip {F : Ent → Option Ent} (h : Resp F) (S : List Ent) (e : Ent) (hs : (orF F S e).isSome = true) (s : Ent) : orF F S s = orF F (S ++ [e]) s := by
  unfold orF
  rw [look_snoc, ← Option.or_assoc]
  by_cases hq : samB e s = true
  · obtain ⟨h1, h2⟩ := (samB_iff _ _).1 hq
    have := h.or S e s h1 h2
    unfold orF at this hs
    rw [this] at hs
    cases hl : (F s).or (lookE S s) with
    | none => rw [hl] at hs; cases hs
    | some x => rfl
  · rw [if_neg hq]
    cases (F s).or (lookE S s) <;> rfl
theorem or_put {F : Ent → Option Ent} (h : Resp F) (S : List Ent) (e : Ent) (hs : (orF F S e).isSome = false) (s : Ent) : putF (orF F S) e e s = orF F (S ++ [e]) s := by
  unfold putF
  unfold orF
  rw [look_snoc, ← Option.or_assoc]
  by_cases hq : samB e s = true
  · obtain ⟨h1, h2⟩ := (samB_iff _ _).1 hq
    have := h.or S e s h1 h2
    unfold orF at this hs
    rw [this] at hs
    rw [if_pos hq, if_pos hq]
    cases hl : (F s).or (lookE S s) with
    | none => rfl
    | some x => rw [hl] at hs; cases hs
  · rw [if_neg hq, if_neg hq]
    cases (F s).or (lookE S s) <;> rfl
def AmPost (w : World) (m n : Nat) (F : Ent → Option Ent) (S : List Ent) (e : Ending) (w' : World) : Prop := e = .returned (.tuple #[]) ∧ MapE w' m (n + S.length) (orF F S) ∧ w.grownBy w' (some m)
set_option maxRecDepth 100000 in
set_option maxHeartbeats 2000000 in
theorem addM_sl {m n : Nat} {F : Ent → Option Ent} {a : Option Addr} {cap : Nat} {S : List Ent} (w : World) (hF : Resp F) (hM : MapE w m n F) (hn : n + S.length ≤ 1000000) (h : SlE w a cap S) (hx : ApS (some m) a S) :
    Calls Try.prog 55 #[.map (some m), .slice a S.length cap] w (AmPost w m n F S) := by
  have HF : Hid (Resp F) := hF
  have Hok : Hid (AllOk S) := h.ok
  have hmlt := hM.lt
  have HM0 : Hid (MapE w m (n + 0) (orF F (S.take 0))) := hM.congr (fun s => by unfold orF; rw [List.take_zero]; cases F s <;> rfl)
  clear hF hM
  go_enter Try.func55, Try.ntmps55
  go_wp2_with fail
  go_loopw [10] (fun iv wr => ∃ k n' : Nat, k ≤ S.length ∧ iv = .int .i64 (k : Int) ∧ n' ≤ n + k ∧ Hid (MapE wr m n' (orF F (S.take k))) ∧ w.grownBy wr (some m)) (fun iv _ => S.length - (intOf iv).toNat)
  case atStart => exact ⟨0, n + 0, Nat.zero_le _, rfl, Nat.le_refl _, HM0, ⟨rfl, rfl, rfl, Nat.le_refl _, fun _ _ _ => rfl⟩⟩
  case round =>
    clear HM0
    obtain ⟨k, n', hk, rfl, hn', hM, hgr⟩ := hrel
    by_cases hlt : k < S.length
    · have hslr := h.grownA hgr hx
      rcases hslr.cells with h0 | ⟨b, off, rfl, hb, c1, c2, c3⟩
      · rw [h0] at hlt; exact absurd hlt (Nat.not_lt_zero _)
      have a1 := c1 k hlt
      have a2 := c2 k hlt
      have a3 := c3 k hlt
      have hok := Hok.out.at k hlt
      have Hso : Hid (SOk (eAt S k)) := ⟨hok.1, hok.2.1⟩
      have htk : Hid (S.take (k + 1) = S.take k ++ [eAt S k]) := take_snocE S k hlt
      have hmr : m < wr.heap.size := Nat.lt_of_lt_of_le hmlt hgr.size
      clear c1 c2 c3 hslr hok
      generalize eAt S k = en at *
      go_wp2_with fail
      obtain ⟨wg, hwg⟩ : ∃ wg, wg = wr.alloc (.cells #[.string en.ty, .string en.key, .string en.id] 38) := ⟨_, rfl⟩
      rw [← hwg]
      have hgA : Grw wr wg := by rw [hwg]; exact (Grw.refl wr).alloc _
      have hgz : wr.heap.size < wg.heap.size := by rw [hwg]; simp
      have x0 : wg.cell? ⟨wr.heap.size, 0, none⟩ = some (.string en.ty) := by rw [hwg]; exact World.cell?_alloc_at _ _ _ _ rfl
      have x1 : wg.cell? ⟨wr.heap.size, 1, none⟩ = some (.string en.key) := by rw [hwg]; exact World.cell?_alloc_at _ _ _ _ rfl
      have x2 : wg.cell? ⟨wr.heap.size, 2, none⟩ = some (.string en.id) := by rw [hwg]; exact World.cell?_alloc_at _ _ _ _ rfl
      clear hwg a1 a2 a3
      refine (slot_any en wg).mono ?_
      rintro e w1 ⟨rfl, hg1⟩
      have hg01 := hgA.trans hg1
      obtain ⟨le, hlook, _⟩ := mapE_look (hM.out.below hg01.below) Hso.out
      have y0 := (hg1.cell (by exact hgz)).trans x0
      have y1 := (hg1.cell (by exact hgz)).trans x1
      have y2 := (hg1.cell (by exact hgz)).trans x2
      have hz1 : wr.heap.size < w1.heap.size := Nat.lt_of_lt_of_le hgz hg1.below.size
      clear x0 x1 x2 hg1 hgA hgz
      cases hso : (orF F (S.take k) en).isSome
      · rw [hso] at hlook
        have hM2 : Hid (MapE w1 m n' (orF F (S.take k))) := hM.out.below hg01.below
        clear hM
        go_wp2_with fail
        obtain ⟨wq, hwq⟩ : ∃ wq, wq = w1.alloc (.cells #[.string le.ty, .string le.key, .string le.id] 38) := ⟨_, rfl⟩
        rw [← hwq]
        have hgB : Grw w1 wq := by rw [hwq]; exact (Grw.refl w1).alloc _
        have x0 := (hgB.cell (by exact hz1)).trans y0
        have x1 := (hgB.cell (by exact hz1)).trans y1
        have x2 := (hgB.cell (by exact hz1)).trans y2
        have hz2 : wr.heap.size < wq.heap.size := Nat.lt_of_lt_of_le hz1 hgB.below.size
        have hn2 : n' < maxLen := by unfold maxLen; omega
        clear hwq y0 y1 y2 hlook
        go_region_with (go_at_call 51; refine (slot_any en _).mono ?_; rintro e w2 ⟨rfl, hg2'⟩; have hg2 : Grw wq w2 := Grw.trans (by first | exact Grw.refl wq | exact (Grw.refl wq).drew | exact (Grw.refl wq).drew.drew) hg2'; have q0 := (hg2.cell (by exact hz2)).trans x0; have q1 := (hg2.cell (by exact hz2)).trans x1; have q2 := (hg2.cell (by exact hz2)).trans x2; obtain ⟨w3, hupd, hM3, hgr3⟩ := mapE_put (hM2.out.below (hgB.trans hg2).below) hn2 Hso.out en)
        all_goals
          have hM4 : Hid (MapE w3 m (n' + 1) (orF F (S.take (k + 1)))) := by
            rw [htk.out]
            exact hM3.congr (or_put HF.out _ _ hso)
          have hgw3 : w.grownBy w3 (some m) := ((hgr.andThen (below_grown ((hg01.trans hgB).trans hg2).below) (fun j hj => by cases hj)).andThen hgr3 (fun j hj => Or.inr hj))
          clear hM3 hM2
          go_wp2
          refine ⟨⟨k + 1, n' + 1, by omega, by go_num, by omega, hM4, hgw3⟩, by simp [intOf]; omega⟩
      · rw [hso] at hlook
        have hM2 : Hid (MapE w1 m n' (orF F (S.take (k + 1)))) := by
          rw [htk.out]
          exact (hM.out.below hg01.below).congr (or_skip HF.out _ _ hso)
        have hgw1 : w.grownBy w1 (some m) := hgr.andThen (below_grown hg01.below) (fun j hj => by cases hj)
        go_wp2
        refine ⟨⟨k + 1, n', by omega, by go_num, by omega, ?_, ?_⟩, by simp [intOf]; omega⟩
        · exact hM2.out.below ((Below.refl _ _).alloc (Nat.le_refl _) _)
        · exact hgw1.andThen (World.grownBy_alloc w1 _ none) (fun j hj => by cases hj)
    · have hkn : S.length = k := by omega
      have hM2 : Hid (MapE wr m (n + S.length) (orF F S)) := by
        obtain ⟨D, h1, h2⟩ := hM.out
        have e1 : S.take k = S := by rw [← hkn]; exact List.take_length
        rw [e1] at h2
        exact ⟨D, h1.mono (by omega), h2⟩
      clear hkn hM
      go_wp2
      exact bodyPost_ret (v := .tuple #[]) (by simp [results, Try.results55, go_sem]) rfl ⟨rfl, hM2.out, hgr⟩
end Go.Proofs.Ytgocjlpbokhoeaa
