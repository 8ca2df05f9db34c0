/-
  slices.SortFunc at a row of places of the call's own, by greatestFirst's function.
-/
import Derived.Test.YtdapefcnmhbgkaaGreatGfI
import Derived.Test.YtdapefcnmhbgkaaGreatShelf
namespace Go.Proofs.YtdapefcnmhbgkaaGreat
open Go.RowKit

theorem fin_list {n : Nat} : ∀ {l : List Nat}, (∀ i ∈ l, i < n) → ∃ d : List (Fin n), d.map Fin.val = l
  | [], _ => ⟨[], rfl⟩
  | i :: l, h => by
    obtain ⟨d, hd⟩ := fin_list (l := l) (fun j hj => h j (List.mem_cons_of_mem _ hj))
    exact ⟨⟨i, h i (List.mem_cons_self ..)⟩ :: d, by simp [hd]⟩

/-- a place as a value. -/
abbrev encN (k : Nat) (x : Fin (k + 1)) : Value := .int .i64 ((x.val : Nat) : Int)
/-- two places compared. -/
abbrev cmpN (E : Nat → Ev) (D : Nat → Nat) (k : Nat) (x y : Fin (k + 1)) : Int := cmpG E (fun i => (D i : Int)) x.val y.val

theorem ltN_t {E : Nat → Ev} {D : Nat → Nat} {k : Nat} {x y : Fin (k + 1)} : ltOf (cmpN E D k) x y = true ↔ Bef E D x.val y.val := by
  unfold ltOf
  rw [decide_eq_true_eq]
  exact cmpG_lt E D _ _
theorem ltN_f {E : Nat → Ev} {D : Nat → Nat} {k : Nat} {x y : Fin (k + 1)} : ltOf (cmpN E D k) x y = false ↔ ¬ Bef E D x.val y.val := by
  rw [← ltN_t]; cases ltOf (cmpN E D k) x y <;> simp
theorem swoN {E : Nat → Ev} {D : Nat → Nat} {k : Nat} (hr : roomTo E (k + 1) = true) : Sort.SWO (ltOf (cmpN E D k)) where
  irrefl x := ltN_f.2 (Bef.irrefl _)
  trans x y z h1 h2 := ltN_t.2 ((ltN_t.1 h1).trans (ltN_t.1 h2))
  ntrans x y z h1 h2 := by
    rw [ltN_f] at h1 h2 ⊢
    intro h
    by_cases e : x.val = y.val
    · rw [e] at h; exact h2 h
    · rcases Bef.total (D := D) hr x.isLt y.isLt e with h3 | h3
      · exact h1 h3
      · exact h2 (h3.trans h)

theorem sortN_heap {w : World} {g n k : Nat} {os : Array Obj} {cur : Array Value} {e : TypeId} {fr : Nat × Nat} (d : Array (Fin (k + 1))) (hb : w.heap[g]? = some (.cells cur e fr)) :
    (sortWorld (encN k) w g 0 n d os).heap[g]? = some (.cells (Sort.putCells (encN k) 0 d cur) e fr) := by
  have hg : g < w.heap.size := (Array.getElem?_eq_some_iff.1 hb).1
  show ((Sort.putRow (encN k) (Sort.ahead w n) g 0 d).heap ++ os)[g]? = _
  rw [Array.getElem?_append, if_pos (by simpa [Sort.putRow, Sort.mapBlock, Sort.ahead] using hg)]
  simp [Sort.putRow, Sort.mapBlock, Sort.ahead, Array.getElem?_modify, hb, Sort.onCells]
theorem sortN_grown {w : World} {g n k : Nat} {os : Array Obj} (d : Array (Fin (k + 1))) : w.grownBy (sortWorld (encN k) w g 0 n d os) (some g) := by
  refine ⟨rfl, rfl, rfl, by simp [sortWorld, Sort.grow, Sort.putRow, Sort.mapBlock, Sort.ahead], fun q hq hne => ?_⟩
  show ((Sort.putRow (encN k) (Sort.ahead w n) g 0 d).heap ++ os)[q]? = _
  rw [Array.getElem?_append, if_pos (by simpa [Sort.putRow, Sort.mapBlock, Sort.ahead] using hq)]
  have : g ≠ q := fun e => hne (by rw [e])
  simp [Sort.putRow, Sort.mapBlock, Sort.ahead, Array.getElem?_modify, this]
theorem takeN_put {k : Nat} (cur : Array Value) (d : List (Fin (k + 1))) (h : d.length ≤ cur.size) : (Sort.putCells (encN k) 0 d.toArray cur).toList.take d.length = d.map (encN k) := by
  apply List.ext_getElem?
  intro j
  by_cases hj : j < d.length
  · rw [List.getElem?_take_of_lt hj, Array.getElem?_toList]
    simp [Sort.putCells, hj, show j < cur.size by omega]
  · rw [List.getElem?_take_eq_none (by omega), List.getElem?_eq_none (by simpa using hj)]
theorem intsN {k : Nat} (d : List (Fin (k + 1))) : d.map (encN k) = ints (lX (d.map Fin.val)) d.length := by
  apply List.ext_getElem?
  intro j
  by_cases hj : j < d.length
  · rw [ints_get _ _ _ hj, List.getElem?_map, List.getElem?_eq_getElem hj]
    simp [lX, List.getD, hj]
  · rw [List.getElem?_eq_none (by simpa using hj), List.getElem?_eq_none (by rw [ints_len]; omega)]

theorem cell_lt {w : World} {c o : Nat} {x : Value} (h : w.cell? ⟨c, o, none⟩ = some x) : c < w.heap.size := by
  rcases Nat.lt_or_ge c w.heap.size with h' | h'
  · exact h'
  · simp [World.cell?, Array.getElem?_eq_none h'] at h
theorem GfAt.grown {w w' : World} {bg bw b off n cap db dc g : Nat} {E : Nat → Ev} {D : Nat → Int} (h : GfAt w bg bw b off n cap db dc E D) (hg : w.grownBy w' (some g)) (h1 : bg ≠ g) (h2 : bw ≠ g) (h3 : b ≠ g) (h4 : db ≠ g) : GfAt w' bg bw b off n cap db dc E D := by
  have key : ∀ c o x, c ≠ g → w.cell? ⟨c, o, none⟩ = some x → w'.cell? ⟨c, o, none⟩ = some x := fun c o x hc hx => by
    rw [World.cell?_of_block (a := ⟨c, o, none⟩) (hg.block c (cell_lt hx) (fun e => hc (by injection e)))]
    exact hx
  exact ⟨key _ _ _ h1 h.g0, key _ _ _ h2 h.w0, fun p hp => key _ _ _ h3 (h.id p hp), fun p hp => key _ _ _ h3 (h.tm p hp), fun p hp => key _ _ _ h4 (h.wt p hp)⟩

/-- what the sort leaves. -/
def SoPostN (w : World) (base : Nat) (v : Value) (l : List Nat) (E : Nat → Ev) (D : Nat → Nat) (e : Ending) (w' : World) : Prop := e = .returned (.tuple #[]) ∧ ∃ l' : List Nat, OwnI w' base v l'.length (lX l') ∧ l'.Perm l ∧ l'.Pairwise (fun a b => ¬ Bef E D b a) ∧ w.grownBy w' v.ownBlock
theorem grownBy_reflN (w : World) (row : Option Nat) : w.grownBy w row := ⟨rfl, rfl, rfl, Nat.le_refl _, fun _ _ _ => rfl⟩

set_option maxRecDepth 100000 in
theorem sortN_own {w : World} {base n : Nat} {v : Value} {l : List Nat} {E : Nat → Ev} {D : Nat → Nat} {bg bw b off cp db dc : Nat} (hr : roomTo E n = true) (h : OwnI w base v l.length (lX l)) (hmem : ∀ i ∈ l, i < n) (hl : l.length ≤ 1000000)
    (hG0 : l ≠ [] → GfAt w bg bw b off n cp db dc E (fun i => (D i : Int))) (hne : ∀ g, v.ownBlock = some g → l ≠ [] → bg ≠ g ∧ bw ≠ g ∧ b ≠ g ∧ db ≠ g) :
    Calls Tryz.prog 41 #[v, .func (.func 56) #[] #[.pointer (some ⟨bg, 0, none⟩), .pointer (some ⟨bw, 0, none⟩)]] w (SoPostN w base v l E D) := by
  have h' := h
  obtain ⟨h1, h2⟩ := h
  by_cases hz : l = []
  · subst hz
    obtain ⟨a, cap, rfl, _⟩ := h'.sl
    have hcon := AnyF.slices_SortFunc_none (P := Tryz.prog) { Tryz.sortN with } a cap (.func (.func 56) #[] #[.pointer (some ⟨bg, 0, none⟩), .pointer (some ⟨bw, 0, none⟩)]) w
    change Calls Tryz.prog 41 _ _ _ at hcon
    refine hcon.mono ?_
    rintro e w' ⟨rfl, rfl⟩
    exact ⟨rfl, [], h', List.Perm.refl _, List.Pairwise.nil, grownBy_reflN _ _⟩
  · have hpos : 0 < l.length := List.length_pos_iff.2 hz
    have hG := hG0 hz
    rcases h2 with ⟨rfl, h0⟩ | ⟨g, cap, cur, rfl, hg, hh, hn, hc, hcs, hx⟩
    · omega
    obtain ⟨k, rfl⟩ : ∃ k, n = k + 1 := ⟨n - 1, by
      obtain ⟨i, hi⟩ := List.exists_mem_of_length_pos hpos
      have := hmem i hi
      omega⟩
    obtain ⟨d, rfl⟩ := fin_list hmem
    rw [List.length_map] at hn hx hl
    have hlt : g < w.heap.size := (Array.getElem?_eq_some_iff.1 hh).1
    obtain ⟨n1, n2, n3, n4⟩ := hne g rfl hz
    have eg : ∀ args w, (callFunc 56 args).run Tryz.prog w = .ok (.enter 56 args) w := enters_of Tryz.func56 (by kernel_rfl) rfl
    have hcmp : CmpLays1 Tryz.prog 56 #[.pointer (some ⟨bg, 0, none⟩), .pointer (some ⟨bw, 0, none⟩)] (encN k) (cmpN E D k) g 0 d.toArray.size w := fun m os dk _ x y =>
      (gfc_any x.val y.val x.isLt y.isLt (hG.grown (sortN_grown dk) n1 n2 n3 n4)).mono fun _ _ h => ⟨h.1, h.2.eq⟩
    have hH : Sort.Holds (encN k) w g 0 d.toArray := by
      intro j hj
      have hj' : j < d.length := by simpa using hj
      refine ⟨?_, by simp [World.frozen?, hh]⟩
      have h1 : (cur.toList.take d.length)[j]? = (d.map (encN k))[j]? := by rw [intsN, ← hx, Nat.mul_one]
      rw [List.getElem?_take_of_lt hj'] at h1
      simp only [World.cell?, hh, Nat.zero_add]
      simp only [Option.isSome_none, Bool.false_eq_true, if_false]
      rw [← Array.getElem?_toList, h1]
      simp [hj']
    have hcon := Any.slices_SortFunc Tryz.sortN (encN k) (fun _ => rfl) (cmpN E D k) (swoN hr) 56 #[.pointer (some ⟨bg, 0, none⟩), .pointer (some ⟨bw, 0, none⟩)] g 0 cap d.toArray w eg hcmp hH hlt (by simp; omega)
    change Calls Tryz.prog 41 _ _ _ at hcon
    rw [List.size_toArray] at hcon
    rw [List.length_map]
    refine hcon.mono ?_
    rintro e w' ⟨rfl, d', m, os, hp, hs, rfl⟩
    obtain ⟨d'⟩ := d'
    obtain ⟨p1, _, p3⟩ := hp
    have hlen : d'.length = d.length := by simpa using p1
    have hperm : d'.Perm d := by
      have e1 : ((⟨d'⟩ : Array (Fin (k + 1))).extract 0 d.length).toList = d' := by simp [← hlen]
      have e2 : (d.toArray.extract 0 d.length).toList = d := by simp
      rw [e1, e2] at p3
      exact p3
    refine ⟨rfl, d'.map Fin.val, ?_, hperm.map _, ?_, ?_⟩
    · rw [List.length_map]
      refine ⟨by rw [ints_len, Nat.mul_one], Or.inr ⟨g, cap, Sort.putCells (encN k) 0 d'.toArray cur, by rw [hlen], hg, sortN_heap _ hh, by omega, hc, by simp [Sort.putCells, hcs], ?_⟩⟩
      have := takeN_put cur d' (by rw [hlen, hcs]; omega)
      rw [intsN] at this
      simpa using this
    · refine List.pairwise_map.2 (List.pairwise_iff_getElem.2 fun i j hi hj hij => ?_)
      have := hs i j (Nat.zero_le _) hij (by omega)
      rw [ltN_f] at this
      have e1 : (⟨d'⟩ : Array (Fin (k + 1)))[i]! = d'[i] := by rw [getElem!_pos (⟨d'⟩ : Array (Fin (k + 1))) i (by simpa using hi)]; rfl
      have e2 : (⟨d'⟩ : Array (Fin (k + 1)))[j]! = d'[j] := by rw [getElem!_pos (⟨d'⟩ : Array (Fin (k + 1))) j (by simpa using hj)]; rfl
      rw [e1, e2] at this
      exact this
    · exact sortN_grown _
end Go.Proofs.YtdapefcnmhbgkaaGreat
