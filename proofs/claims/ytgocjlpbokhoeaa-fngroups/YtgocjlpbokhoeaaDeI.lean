import Derived.Test.YtgocjlpbokhoeaaDeP
import Derived.Test.YtgocjlpbokhoeaaDlLM
import Derived.Test.YtgocjlpbokhoeaaAnEM
import Derived.Laws.StructEq
namespace Go.Proofs.Ytgocjlpbokhoeaa
open Go.RowKit
theorem de3_fit {a b : List Ent} {k : Nat} {s u : Ent} (h : de3 a b k s = some u) : u.ty = s.ty ∧ u.key = s.key := by
  unfold de3 at h
  cases hl : lookE (a.take k) s with
  | none =>
    rw [hl] at h
    have h' : de2 a b b.length s = some u := h
    unfold de2 at h'
    rw [List.take_length] at h'
    cases hb : lookE b s with
    | some y =>
      rw [hb] at h'
      injection h' with h'
      subst h'
      exact (lookE_some hb).2
    | none =>
      rw [hb] at h'
      cases ha : lookE a s with
      | none => rw [ha] at h'; cases h'
      | some x =>
        rw [ha] at h'
        have h2 : some (wipe x) = some u := h'
        injection h2 with h2
        subst h2
        exact (lookE_some ha).2
  | some x => rw [hl] at h; exact deF_fit a b s u h
theorem SlE.apM {w : World} {a : Option Addr} {cap : Nat} {l : List Ent} (h : SlE w a cap l) : ApS (some w.heap.size) a l := by
  rcases h.cells with h0 | ⟨b', off, rfl, hlt, _⟩
  · exact Or.inl h0
  · exact Or.inr ⟨b', off, rfl, fun e => by injection e with e; omega⟩
set_option maxRecDepth 100000 in
set_option maxHeartbeats 8000000 in
theorem deltaI_st {xa : Option Addr} {xc : Nat} {a : List Ent} {ya : Option Addr} {yc : Nat} {b : List Ent} (w : World) (h : SlE w xa xc a) (hb : SlE w ya yc b) (hsa : stB a = true) (hsb : stB b = true) :
    Calls Try.prog 54 #[.slice xa a.length xc, .slice ya b.length yc] w fun e w' => ∃ v, e = .returned (.tuple #[v, .bool true]) ∧ OwnE w' w.heap.size v (dl2 a b b.length) ∧ Below w.heap.size w w' := by
  have hmm := @run_makeMap Try.prog
  obtain ⟨ha3, hSa, hIa⟩ := st_parts hsa
  obtain ⟨hb3, hSb, hIb⟩ := st_parts hsb
  have HP : Hid (SrtE a ∧ Ids a ∧ SrtE b ∧ AllOk a ∧ AllOk b) := ⟨hSa, hIa, hSb, h.ok, hb.ok⟩
  clear hSa hIa hSb hIb
  go_enter Try.func54, Try.ntmps54
  go_wp2_with fail
  refine (stateI_sl _ h).mono ?_
  rintro e w1 ⟨rfl, hb1⟩
  rw [hsa]
  go_wp2_with fail
  refine (stateI_sl _ (hb.below hb1)).mono ?_
  rintro e w2 ⟨rfl, hb2⟩
  rw [hsb]
  have hw2 := hb1.trans (hb2.mono hb1.size)
  have h2 := h.below hw2
  have hbb2 := hb.below hw2
  clear hsa hsb hb1 hb2 h hb
  go_wp2_with fail
  obtain ⟨wm, hwm⟩ : ∃ wm, wm = w2.alloc (.map #[] 0) := ⟨_, rfl⟩
  rw [← hwm]
  have hbm : Below w2.heap.size w2 wm := by rw [hwm]; exact (Below.refl _ _).alloc (Nat.le_refl _) _
  have HM0 : Hid (MapE wm w2.heap.size 0 (de1 a 0)) := by
    rw [hwm]
    exact (MapE.made w2).congr (fun s => by unfold de1; rw [List.take_zero]; rfl)
  have hax : ApS (some w2.heap.size) xa a := h2.apM
  have hbx : ApS (some w2.heap.size) ya b := hbb2.apM
  have hgm : wm.grownBy wm (some w2.heap.size) := grownBy_refl _ _
  have h3 := h2.below hbm
  have hb3' := hbb2.below hbm
  have hszm : wm.heap.size = w2.heap.size + 1 := by rw [hwm]; simp
  clear hwm hmm h2 hbb2
  go_loopw [24] (fun iv wr => ∃ k : Nat, k ≤ a.length ∧ iv = .int .i64 (k : Int) ∧ Hid (MapE wr w2.heap.size k (de1 a k)) ∧ wm.grownBy wr (some w2.heap.size)) (fun iv _ => a.length - (intOf iv).toNat)
  case atStart => exact ⟨0, Nat.zero_le _, rfl, HM0, hgm⟩
  case round =>
    clear HM0
    obtain ⟨k, hk, rfl, HM, hgr⟩ := hrel
    by_cases hlt : k < a.length
    · have hslr := h3.grownA hgr hax
      rcases hslr.cells with h0 | ⟨ab, ao, rfl, hab, c1, c2, c3⟩
      · rw [h0] at hlt; exact absurd hlt (Nat.not_lt_zero _)
      have a1 := c1 k hlt
      have a2 := c2 k hlt
      have a3 := c3 k hlt
      have hok := HP.out.2.2.2.1.at k hlt
      have Hso : Hid (SOk (eAt a k)) := ⟨hok.1, hok.2.1⟩
      have Hst : Hid (∀ s, putF (de1 a k) (eAt a k) ⟨(eAt a k).ty, (eAt a k).key, ⟨#[]⟩⟩ s = de1 a (k + 1) s) := fun s => de1_step HP.out.1 hlt s
      clear c1 c2 c3 hslr hok
      generalize eAt a k = en at *
      go_wp2_with fail
      obtain ⟨wg, hwg⟩ : ∃ wg, wg = wr.alloc (.cells #[.string en.ty, .string en.key, .string en.id] 38) := ⟨_, rfl⟩
      rw [← hwg]
      have hgA : Grw wr wg := by rw [hwg]; exact (Grw.refl wr).alloc _
      have hgz : wr.heap.size < wg.heap.size := by rw [hwg]; simp
      have x0 : wg.cell? ⟨wr.heap.size, 0, none⟩ = some (.string en.ty) := by rw [hwg]; exact World.cell?_alloc_at _ _ _ _ rfl
      have x1 : wg.cell? ⟨wr.heap.size, 1, none⟩ = some (.string en.key) := by rw [hwg]; exact World.cell?_alloc_at _ _ _ _ rfl
      have x2 : wg.cell? ⟨wr.heap.size, 2, none⟩ = some (.string en.id) := by rw [hwg]; exact World.cell?_alloc_at _ _ _ _ rfl
      have hn2 : k < maxLen := by unfold maxLen; omega
      clear hwg a1 a2 a3
      go_region_with (go_at_call 51; refine (slot_any en _).mono ?_; rintro e w3 ⟨rfl, hg3'⟩; have hg3 : Grw wg w3 := Grw.trans (by first | exact Grw.refl wg | exact (Grw.refl wg).drew | exact (Grw.refl wg).drew.drew) hg3'; have q0 := (hg3.cell (by exact hgz)).trans x0; have q1 := (hg3.cell (by exact hgz)).trans x1; have q2 := (hg3.cell (by exact hgz)).trans x2; obtain ⟨w4, hupd0, hM4, hgr4⟩ := mapE_put (HM.out.below (hgA.trans hg3).below) hn2 Hso.out ⟨en.ty, en.key, ⟨#[]⟩⟩; have hupd : (Instr.mapUpdate 87 (.map (some w2.heap.size)) (.agg #[.string en.ty, .string en.key]) (.agg #[.string en.ty, .string en.key, .string ⟨#[]⟩])).run Try.prog w3 = .ok () w4 := hupd0)
      all_goals
        have HM5 : Hid (MapE w4 w2.heap.size (k + 1) (de1 a (k + 1))) := hM4.congr Hst.out
        have hgw4 : wm.grownBy w4 (some w2.heap.size) := (hgr.andThen (below_grown (hgA.trans hg3).below) (fun j hj => by cases hj)).andThen hgr4 (fun j hj => Or.inr hj)
        clear hM4 hupd0
        go_wp2
        refine ⟨⟨k + 1, by omega, by go_num, HM5, hgw4⟩, by simp [intOf]; omega⟩
    · have hkn : k = a.length := by omega
      have HMz : Hid (MapE wr w2.heap.size (a.length + 0) (de2 a b 0)) := by
        rw [hkn] at HM
        exact HM.out.congr (de2_zero a b)
      obtain ⟨wo, rfl⟩ : ∃ wo : World, wo = wr := ⟨_, rfl⟩
      clear HM hkn
      go_wp2_with fail
      clear hk hlt
      go_loopw [39] (fun iv wr => ∃ k : Nat, k ≤ b.length ∧ iv = .int .i64 (k : Int) ∧ Hid (MapE wr w2.heap.size (a.length + k) (de2 a b k)) ∧ wm.grownBy wr (some w2.heap.size)) (fun iv _ => b.length - (intOf iv).toNat)
      case atStart => exact ⟨0, Nat.zero_le _, rfl, HMz, hgr⟩
      case round =>
        clear HMz hgr
        obtain ⟨k, hk, rfl, HM, hgr⟩ := hrel
        by_cases hlt : k < b.length
        · have hslr := hb3'.grownA hgr hbx
          rcases hslr.cells with h0 | ⟨ab, ao, rfl, hab, c1, c2, c3⟩
          · rw [h0] at hlt; exact absurd hlt (Nat.not_lt_zero _)
          have a1 := c1 k hlt
          have a2 := c2 k hlt
          have a3 := c3 k hlt
          have hok := HP.out.2.2.2.2.at k hlt
          have Hso : Hid (SOk (eAt b k)) := ⟨hok.1, hok.2.1⟩
          have Hst : Hid (∀ s, putF (de2 a b k) (eAt b k) (eAt b k) s = de2 a b (k + 1) s) := fun s => de2_step HP.out.2.2.1 hlt s
          clear c1 c2 c3 hslr hok
          generalize eAt b k = en at *
          go_wp2_with fail
          obtain ⟨wg, hwg⟩ : ∃ wg, wg = wr.alloc (.cells #[.string en.ty, .string en.key, .string en.id] 38) := ⟨_, rfl⟩
          rw [← hwg]
          have hgA : Grw wr wg := by rw [hwg]; exact (Grw.refl wr).alloc _
          have hgz : wr.heap.size < wg.heap.size := by rw [hwg]; simp
          have x0 : wg.cell? ⟨wr.heap.size, 0, none⟩ = some (.string en.ty) := by rw [hwg]; exact World.cell?_alloc_at _ _ _ _ rfl
          have x1 : wg.cell? ⟨wr.heap.size, 1, none⟩ = some (.string en.key) := by rw [hwg]; exact World.cell?_alloc_at _ _ _ _ rfl
          have x2 : wg.cell? ⟨wr.heap.size, 2, none⟩ = some (.string en.id) := by rw [hwg]; exact World.cell?_alloc_at _ _ _ _ rfl
          have hn2 : a.length + k < maxLen := by unfold maxLen; omega
          clear hwg a1 a2 a3
          go_region_with (go_at_call 51; refine (slot_any en _).mono ?_; rintro e w3 ⟨rfl, hg3'⟩; have hg3 : Grw wg w3 := Grw.trans (by first | exact Grw.refl wg | exact (Grw.refl wg).drew | exact (Grw.refl wg).drew.drew) hg3'; have q0 := (hg3.cell (by exact hgz)).trans x0; have q1 := (hg3.cell (by exact hgz)).trans x1; have q2 := (hg3.cell (by exact hgz)).trans x2; obtain ⟨w4, hupd, hM4, hgr4⟩ := mapE_put (HM.out.below (hgA.trans hg3).below) hn2 Hso.out en)
          all_goals
            have HM5 : Hid (MapE w4 w2.heap.size (a.length + (k + 1)) (de2 a b (k + 1))) := hM4.congr Hst.out
            have hgw4 : wm.grownBy w4 (some w2.heap.size) := (hgr.andThen (below_grown (hgA.trans hg3).below) (fun j hj => by cases hj)).andThen hgr4 (fun j hj => Or.inr hj)
            clear hM4
            go_wp2
            refine ⟨⟨k + 1, by omega, by go_num, HM5, hgw4⟩, by simp [intOf]; omega⟩
        · have hkn : k = b.length := by omega
          have HMz : Hid (MapE wr w2.heap.size (a.length + b.length) (de3 a b 0)) := by
            rw [hkn] at HM
            exact HM.out.congr (de3_zero a b)
          obtain ⟨wo2, rfl⟩ : ∃ wo2 : World, wo2 = wr := ⟨_, rfl⟩
          clear HM hkn
          go_wp2_with fail
          clear hk hlt
          go_loopw [50] (fun iv wr => ∃ k : Nat, k ≤ a.length ∧ iv = .int .i64 (k : Int) ∧ Hid (MapE wr w2.heap.size (a.length + b.length) (de3 a b k)) ∧ wm.grownBy wr (some w2.heap.size)) (fun iv _ => a.length - (intOf iv).toNat)
          case atStart => exact ⟨0, Nat.zero_le _, rfl, HMz, hgr⟩
          case round =>
            clear HMz hgr
            obtain ⟨k, hk, rfl, HM, hgr⟩ := hrel
            by_cases hlt : k < a.length
            · have hslr := h3.grownA hgr hax
              rcases hslr.cells with h0 | ⟨ab, ao, rfl, hab, c1, c2, c3⟩
              · rw [h0] at hlt; exact absurd hlt (Nat.not_lt_zero _)
              have a1 := c1 k hlt
              have a2 := c2 k hlt
              have a3 := c3 k hlt
              have hok := HP.out.2.2.2.1.at k hlt
              have Hso : Hid (SOk (eAt a k)) := ⟨hok.1, hok.2.1⟩
              obtain ⟨u, hu, huy, hun⟩ := de3_at (b := b) HP.out.1 HP.out.2.1 hlt
              have hus := de3_fit hu
              have Hu : Hid (de3 a b k (eAt a k) = some u) := hu
              have Huy : Hid (eqB u (eAt a k) = true → ∀ s, delF (de3 a b k) (eAt a k) s = de3 a b (k + 1) s) := huy
              have Hun : Hid (eqB u (eAt a k) = false → ∀ s, de3 a b k s = de3 a b (k + 1) s) := hun
              obtain ⟨u1, u2, u3⟩ := u
              simp only at hus
              obtain ⟨rfl, rfl⟩ := hus
              clear c1 c2 c3 hslr hok hu huy hun
              generalize eAt a k = en at *
              go_wp2_with fail
              obtain ⟨wg, hwg⟩ : ∃ wg, wg = wr.alloc (.cells #[.string en.ty, .string en.key, .string en.id] 38) := ⟨_, rfl⟩
              rw [← hwg]
              have hgA : Grw wr wg := by rw [hwg]; exact (Grw.refl wr).alloc _
              have hgz : wr.heap.size < wg.heap.size := by rw [hwg]; simp
              have x0 : wg.cell? ⟨wr.heap.size, 0, none⟩ = some (.string en.ty) := by rw [hwg]; exact World.cell?_alloc_at _ _ _ _ rfl
              have x1 : wg.cell? ⟨wr.heap.size, 1, none⟩ = some (.string en.key) := by rw [hwg]; exact World.cell?_alloc_at _ _ _ _ rfl
              have x2 : wg.cell? ⟨wr.heap.size, 2, none⟩ = some (.string en.id) := by rw [hwg]; exact World.cell?_alloc_at _ _ _ _ rfl
              clear hwg a1 a2 a3
              by_cases hq : u3.toList = en.id.toList
              · have HM5 : Hid (∀ s, delF (de3 a b k) en s = de3 a b (k + 1) s) := Huy.out (by unfold eqB; simp [hq])
                go_region_with (go_at_call 51; refine (slot_any en _).mono ?_; rintro e w3 ⟨rfl, hg3'⟩; have hg3 : Grw wg w3 := Grw.trans (by first | exact Grw.refl wg | exact (Grw.refl wg).drew | exact (Grw.refl wg).drew.drew) hg3'; have q0 := (hg3.cell (by exact hgz)).trans x0; have q1 := (hg3.cell (by exact hgz)).trans x1; have q2 := (hg3.cell (by exact hgz)).trans x2; have HM3 : Hid (MapE w3 w2.heap.size (a.length + b.length) (de3 a b k)) := HM.out.below (hgA.trans hg3).below; obtain ⟨le, hlook0, hle⟩ := mapE_get HM3.out Hso.out; have hle2 := hle _ Hu.out; subst hle2; have hlook : (Instr.lookup 87 (.map (some w2.heap.size)) (.agg #[.string en.ty, .string en.key]) false).run Try.prog w3 = .ok (.agg #[.string en.ty, .string en.key, .string u3]) w3 := hlook0; have hz3 : wr.heap.size < w3.heap.size := Nat.lt_of_lt_of_le hgz hg3.below.size; clear hlook0 hle)
                all_goals
                  clear hlook
                  go_wp2_with fail
                  refine (slot_any en w3).mono ?_
                  rintro e w5 ⟨rfl, hg5⟩
                  obtain ⟨w6, hdel, hM6, hgr6⟩ := mapE_del (HM3.out.below hg5.below) Hso.out 0
                  have HM7 : Hid (MapE w6 w2.heap.size (a.length + b.length) (de3 a b (k + 1))) := hM6.congr HM5.out
                  have hgw6 : wm.grownBy w6 (some w2.heap.size) := ((hgr.andThen (below_grown (hgA.trans hg3).below) (fun j hj => by cases hj)).andThen (below_grown hg5.below) (fun j hj => by cases hj)).andThen hgr6 (fun j hj => Or.inr hj)
                  clear hM6
                  go_wp2
                  refine ⟨⟨k + 1, by omega, by go_num, HM7, hgw6⟩, by simp [intOf]; omega⟩
              · have HM5 : Hid (∀ s, de3 a b k s = de3 a b (k + 1) s) := Hun.out (by unfold eqB; simp [hq])
                go_region_with (go_at_call 51; refine (slot_any en _).mono ?_; rintro e w3 ⟨rfl, hg3'⟩; have hg3 : Grw wg w3 := Grw.trans (by first | exact Grw.refl wg | exact (Grw.refl wg).drew | exact (Grw.refl wg).drew.drew) hg3'; have q0 := (hg3.cell (by exact hgz)).trans x0; have q1 := (hg3.cell (by exact hgz)).trans x1; have q2 := (hg3.cell (by exact hgz)).trans x2; have HM3 : Hid (MapE w3 w2.heap.size (a.length + b.length) (de3 a b k)) := HM.out.below (hgA.trans hg3).below; obtain ⟨le, hlook0, hle⟩ := mapE_get HM3.out Hso.out; have hle2 := hle _ Hu.out; subst hle2; have hlook : (Instr.lookup 87 (.map (some w2.heap.size)) (.agg #[.string en.ty, .string en.key]) false).run Try.prog w3 = .ok (.agg #[.string en.ty, .string en.key, .string u3]) w3 := hlook0; clear hlook0 hle)
                all_goals
                  have HM6 : Hid (MapE w3 w2.heap.size (a.length + b.length) (de3 a b (k + 1))) := HM3.out.congr HM5.out
                  have hgw3 : wm.grownBy w3 (some w2.heap.size) := hgr.andThen (below_grown (hgA.trans hg3).below) (fun j hj => by cases hj)
                  go_wp2
                  refine ⟨⟨k + 1, by omega, by go_num, HM6, hgw3⟩, by simp [intOf]; omega⟩
            · have hkn : k = a.length := by omega
              have HMz : Hid (MapE wr w2.heap.size (a.length + b.length) (deF a b)) := by
                rw [hkn] at HM
                exact HM.out.congr (fun s => de3_end s)
              have hbw : Below w.heap.size w wr := (hw2.trans (hbm.mono hw2.size)).grown hgr (by have := hw2.size; omega) (fun q hq => by injection hq with hq; have := hw2.size; omega)
              have Hin : Hid (Calls Try.prog 56 #[.map (some w2.heap.size)] wr fun e w' => ∃ v, e = .returned v ∧ OwnE w' wr.heap.size v (dl2 a b b.length) ∧ Below wr.heap.size wr w') := inSl_any wr HMz.out (deF_resp a b) (deF_fit a b) (by omega) (dl_look HP.out.1 HP.out.2.1 HP.out.2.2.1).1 (de_mem HP.out.1 HP.out.2.1 HP.out.2.2.1 HP.out.2.2.2.1 HP.out.2.2.2.2) (dl2_ok HP.out.2.2.2.1 HP.out.2.2.2.2 b.length (Nat.le_refl _))
              have Hok : Hid (AllOk (dl2 a b b.length)) := dl2_ok HP.out.2.2.2.1 HP.out.2.2.2.2 b.length (Nat.le_refl _)
              clear HM HMz hkn
              go_wp2_with fail
              refine (Hin.out).mono ?_
              rintro e w5 ⟨v, rfl, ho, hb5⟩
              obtain ⟨ga, gc, rfl, _⟩ := ho.sl Hok.out.at
              have hw5 := hbw.trans (hb5.mono hbw.size)
              have ho2 := ho.base_le hbw.size
              go_wp2
              exact bodyPost_ret (v := .tuple #[.slice ga (dl2 a b b.length).length gc, .bool true]) (by simp [results, Try.results54, go_sem]) rfl ⟨_, rfl, ho2, hw5⟩
end Go.Proofs.Ytgocjlpbokhoeaa
