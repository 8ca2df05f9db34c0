import Derived.Test.YtgocjlpbokhoeaaEaI
import Derived.Test.YtgocjlpbokhoeaaOwnM
import Derived.Test.YtgocjlpbokhoeaaShelf
namespace Go.Proofs.Ytgocjlpbokhoeaa
open Go.RowKit
instance : Inhabited Ent := ⟨Ent.none⟩
set_option maxRecDepth 100000 in
set_option maxHeartbeats 1000000 in
theorem isoC_any (x s : Ent) (w : World) :
    Calls Try.prog 64 #[entV x, entV s] w fun e w' => e = .returned (.int .i64 (cmpE x s)) ∧ Grw w w' := by
  obtain ⟨wb, hwb⟩ : ∃ wb, wb = (w.alloc (.cells #[.string x.ty, .string x.key, .string x.id] 38)).alloc (.cells #[.string s.ty, .string s.key, .string s.id] 38) := ⟨_, rfl⟩
  have hg : Grw w wb := by rw [hwb]; exact ((Grw.refl _).alloc _).alloc _
  have hs1 : w.heap.size < wb.heap.size := by rw [hwb]; simp; omega
  have hs2 : w.heap.size + 1 < wb.heap.size := by rw [hwb]; simp
  have c0 : ∀ n os, (Sort.grow (wb.drewN n) os).cell? ⟨w.heap.size, 0, none⟩ = some (.string x.ty) := cell_grown (by exact hs1) (by rw [hwb]; exact (cell_two w _ _ _ _ 0).1)
  have c1 : ∀ n os, (Sort.grow (wb.drewN n) os).cell? ⟨w.heap.size, 1, none⟩ = some (.string x.key) := cell_grown (by exact hs1) (by rw [hwb]; exact (cell_two w _ _ _ _ 1).1)
  have c2 : ∀ n os, (Sort.grow (wb.drewN n) os).cell? ⟨w.heap.size, 2, none⟩ = some (.string x.id) := cell_grown (by exact hs1) (by rw [hwb]; exact (cell_two w _ _ _ _ 2).1)
  have d0 : ∀ n os, (Sort.grow (wb.drewN n) os).cell? ⟨w.heap.size + 1, 0, none⟩ = some (.string s.ty) := cell_grown (by exact hs2) (by rw [hwb]; exact (cell_two w _ _ _ _ 0).2)
  have d1 : ∀ n os, (Sort.grow (wb.drewN n) os).cell? ⟨w.heap.size + 1, 1, none⟩ = some (.string s.key) := cell_grown (by exact hs2) (by rw [hwb]; exact (cell_two w _ _ _ _ 1).2)
  have d2 : ∀ n os, (Sort.grow (wb.drewN n) os).cell? ⟨w.heap.size + 1, 2, none⟩ = some (.string s.id) := cell_grown (by exact hs2) (by rw [hwb]; exact (cell_two w _ _ _ _ 2).2)
  go_enter Try.func64, Try.ntmps64
  go_wp2_with fail
  rw [← hwb]
  clear hwb
  refine wp_region_quiet_grown (by kernel_rfl) (by kernel_rfl) ?_
  repeat (quiet_step (first
    | (go_at_call 51; exact Calls.grown_of (slot_gr _ _))
    | (go_at_call 62; exact Calls.grown_of (cmpS_gr x s _))))
  refine wpQuiet_nil ?_
  intro _ hw'
  obtain ⟨⟨nq, osq⟩, hw''⟩ := hw'
  subst hw''
  clear c0 c1 c2 d0 d1 d2
  go_wp2
  go_ret
  exact ⟨rfl, hg.trans (grw_grow _ _ _)⟩
theorem ltE (x y : Ent) : ltOf cmpE x y = befB x y := by rw [cmpE_bef]; rfl
theorem ltE_t {x y : Ent} : ltOf cmpE x y = true ↔ Lt x y := by rw [ltE, befB_iff]
theorem ltE_f {x y : Ent} : ltOf cmpE x y = false ↔ ¬ Lt x y := by rw [ltE, ← befB_iff]; cases befB x y <;> simp
theorem swoE : Sort.SWO (ltOf cmpE) where
  irrefl x := ltE_f.2 (Lt.irrefl x)
  trans x y z h1 h2 := ltE_t.2 ((ltE_t.1 h1).trans (ltE_t.1 h2))
  ntrans x y z h1 h2 := by
    rw [ltE_f] at h1 h2 ⊢
    intro h
    rcases tri x y with ⟨h3, _⟩ | ⟨h3, _⟩ | ⟨h3, _⟩
    · exact h1 h3
    · refine h2 ?_
      unfold Lt at h ⊢
      rw [h3.1, h3.2] at h
      exact h
    · exact h2 (h3.trans h)
theorem flat_enc (l : List Ent) : Sort.flatK encE 3 l.toArray = (encL l).toArray := by
  refine Sort.ext_get! (by simp [encL_len]) fun t ht => ?_
  have ht' : t < l.length * 3 := by simpa using ht
  rw [Sort.get_flatK _ _ _ t (by simpa using ht')]
  have hi : t / 3 < l.length := by omega
  obtain ⟨g0, g1, g2⟩ := encL_get l (t / 3) hi
  have e1 : (l.toArray)[t / 3]! = eAt l (t / 3) := by
    rw [eAt_get l _ hi]
    simp [hi]
  rw [e1]
  have hlen : t < (encL l).length := by rw [encL_len]; exact ht'
  have e2 : (encL l).toArray[t]! = (encL l)[t] := by
    rw [getElem!_pos (encL l).toArray t (by simpa using hlen)]; simp
  rw [e2]
  have e3 : ∀ v, (encL l)[t]? = some v → (encL l)[t] = v := fun v hv => by
    rw [List.getElem?_eq_getElem hlen] at hv
    injection hv
  have hm := Nat.div_add_mod t 3
  have hc : t % 3 = 0 ∨ t % 3 = 1 ∨ t % 3 = 2 := by omega
  rcases hc with hc | hc | hc
  · rw [hc]; exact (e3 _ (by rw [show t = t / 3 * 3 by omega]; rw [show t / 3 * 3 / 3 = t / 3 by omega]; exact g0)).symm
  · rw [hc]; exact (e3 _ (by rw [show t = t / 3 * 3 + 1 by omega]; rw [show (t / 3 * 3 + 1) / 3 = t / 3 by omega]; exact g1)).symm
  · rw [hc]; exact (e3 _ (by rw [show t = t / 3 * 3 + 2 by omega]; rw [show (t / 3 * 3 + 2) / 3 = t / 3 by omega]; exact g2)).symm
theorem sort_heap {w : World} {g n : Nat} {os : Array Obj} {cur : Array Value} {e : TypeId} {fr : Nat × Nat} (d : Array Value) (hb : w.heap[g]? = some (.cells cur e fr)) :
    (Sort.grow (Sort.putRow id (Sort.ahead w n) g 0 d) os).heap[g]? = some (.cells (Sort.putCells id 0 d cur) e fr) := by
  have hg : g < w.heap.size := (Array.getElem?_eq_some_iff.1 hb).1
  show ((Sort.putRow id (Sort.ahead w n) g 0 d).heap ++ os)[g]? = _
  rw [Array.getElem?_append, if_pos (by simpa [Sort.putRow, Sort.mapBlock, Sort.ahead] using hg)]
  simp [Sort.putRow, Sort.mapBlock, Sort.ahead, Array.getElem?_modify, hb, Sort.onCells]
theorem sort_grown {w : World} {g n : Nat} {os : Array Obj} (d : Array Value) : w.grownBy (Sort.grow (Sort.putRow id (Sort.ahead w n) g 0 d) os) (some g) := by
  refine ⟨rfl, rfl, rfl, by simp [Sort.grow, Sort.putRow, Sort.mapBlock, Sort.ahead], fun k hk hne => ?_⟩
  show ((Sort.putRow id (Sort.ahead w n) g 0 d).heap ++ os)[k]? = _
  rw [Array.getElem?_append, if_pos (by simpa [Sort.putRow, Sort.mapBlock, Sort.ahead] using hk)]
  have : g ≠ k := fun e => hne (by rw [e])
  simp [Sort.putRow, Sort.mapBlock, Sort.ahead, Array.getElem?_modify, this]
theorem take_put (cur : Array Value) (ts : List Value) (h : ts.length ≤ cur.size) : (Sort.putCells id 0 ts.toArray cur).toList.take ts.length = ts := by
  apply List.ext_getElem?
  intro j
  by_cases hj : j < ts.length
  · rw [List.getElem?_take_of_lt hj, Array.getElem?_toList]
    simp [Sort.putCells, hj, show j < cur.size by omega]
  · rw [List.getElem?_take_eq_none (by omega), List.getElem?_eq_none (by omega)]
def SoPost (w : World) (base : Nat) (v : Value) (l : List Ent) (e : Ending) (w' : World) : Prop := e = .returned (.tuple #[]) ∧ ∃ l' : List Ent, OwnE w' base v l' ∧ l'.Perm l ∧ l'.Pairwise (fun a b => ¬ Lt b a) ∧ w.grownBy w' v.ownBlock
theorem grownBy_refl (w : World) (row : Option Nat) : w.grownBy w row := ⟨rfl, rfl, rfl, Nat.le_refl _, fun _ _ _ => rfl⟩
set_option maxRecDepth 100000 in
theorem sortE_own {w : World} {base : Nat} {v : Value} {l : List Ent} (h : OwnE w base v l) (hl : l.length ≤ 1000000) :
    Calls Try.prog 65 #[v, .func (.func 64) #[] #[]] w (SoPost w base v l) := by
  have h' := h
  obtain ⟨h1, h2⟩ := h
  rcases h2 with ⟨rfl, h0⟩ | ⟨g, cap, cur, rfl, hg, hh, hn, hc, hcs, hx⟩
  · have : l = [] := List.eq_nil_of_length_eq_zero h0
    subst this
    have hcon := AnyF.slices_SortFunc_none Try.sortE none 0 (.func (.func 64) #[] #[]) w
    change Calls Try.prog 65 _ _ _ at hcon
    refine hcon.mono ?_
    rintro e w' ⟨rfl, rfl⟩
    exact ⟨rfl, [], h', List.Perm.refl _, List.Pairwise.nil, grownBy_refl _ _⟩
  · have hlt : g < w.heap.size := (Array.getElem?_eq_some_iff.1 hh).1
    have eg : ∀ args w, (callFunc 64 args).run Try.prog w = .ok (.enter 64 args) w := enters_of Try.func64 (by kernel_rfl) rfl
    have hcmp : CmpLays Try.prog 64 #[] encE 3 cmpE g 0 l.toArray.size w := fun _ _ _ _ x y => (isoC_any x y _).mono fun _ _ h => ⟨h.1, h.2.eq⟩
    have hH : Sort.HoldsK encE 3 w g 0 l.toArray := by
      unfold Sort.HoldsK
      rw [flat_enc]
      intro j hj
      have hj' : j < l.length * 3 := by simpa [encL_len] using hj
      refine ⟨?_, by simp [World.frozen?, hh]⟩
      have h1 : (cur.toList.take (l.length * 3))[j]? = (encL l)[j]? := by rw [hx]
      rw [List.getElem?_take_of_lt hj'] at h1
      simp only [World.cell?, hh, Nat.zero_add]
      simp only [Option.isSome_none, Bool.false_eq_true, if_false]
      rw [← Array.getElem?_toList, h1]
      have hlen : j < (encL l).length := by rw [encL_len]; exact hj'
      rw [getElem!_pos (encL l).toArray j (by simpa using hlen)]
      simp [hlen]
    have hcon := AnyQ.slices_SortFunc Try.sortE 3 Try.isAgg38 Try.sizeOf38 encE (fun _ => rfl) (fun x u hu => by
      simp only [encE, List.mem_cons, List.not_mem_nil, or_false] at hu
      rcases hu with rfl | rfl | rfl <;> rfl) cmpE swoE 64 #[] g 0 cap l.toArray w eg hcmp hH hlt (by simp; omega)
    change Calls Try.prog 65 _ _ _ at hcon
    rw [List.size_toArray] at hcon
    refine hcon.mono ?_
    rintro e w' ⟨rfl, d', n, os, hp, hs, rfl⟩
    obtain ⟨d'⟩ := d'
    obtain ⟨p1, _, p3⟩ := hp
    have hlen : d'.length = l.length := by simpa using p1
    have hperm : d'.Perm l := by
      have e1 : ((⟨d'⟩ : Array Ent).extract 0 l.length).toList = d' := by simp [← hlen]
      have e2 : (l.toArray.extract 0 l.length).toList = l := by simp
      rw [e1, e2] at p3
      exact p3
    refine ⟨rfl, d', ?_, hperm, ?_, ?_⟩
    · refine ⟨by rw [encL_len], Or.inr ⟨g, cap, Sort.putCells id 0 (encL d').toArray cur, by rw [hlen], hg, ?_, by omega, hc, by simp [Sort.putCells, hcs], ?_⟩⟩
      · show (Sort.grow (Sort.putRow id (Sort.ahead w n) g 0 (Sort.flatK encE 3 d'.toArray)) os).heap[g]? = _
        rw [flat_enc]
        exact sort_heap _ hh
      · have := take_put cur (encL d') (by rw [encL_len, hlen, hcs]; omega)
        rw [encL_len] at this
        exact this
    · refine List.pairwise_iff_getElem.2 fun i j hi hj hij => ?_
      have := hs i j (Nat.zero_le _) hij (by omega)
      rw [ltE_f] at this
      have e1 : (⟨d'⟩ : Array Ent)[i]! = d'[i] := by rw [getElem!_pos (⟨d'⟩ : Array Ent) i (by simpa using hi)]; rfl
      have e2 : (⟨d'⟩ : Array Ent)[j]! = d'[j] := by rw [getElem!_pos (⟨d'⟩ : Array Ent) j (by simpa using hj)]; rfl
      rw [e1, e2] at this
      exact this
    · exact sort_grown _
end Go.Proofs.Ytgocjlpbokhoeaa
