/-
  spec's l2Full of any ids.
-/
import Derived.Test.YtfjfhnjoghlbfaaGreatChS
import Derived.Test.YtfjfhnjoghlbfaaGreatL2s
import Derived.Maps.AppendAt
import Derived.Deep.AppendSrc
import Derived.Deep.AppendLies
namespace Go.Proofs.YtfjfhnjoghlbfaaGreat
open Go.RowKit

/-- what l2Full answers. -/
def FuPost (w : World) (P : ByteArray → Prop) (e : Ending) (w' : World) : Prop := ∃ v l, e = .returned v ∧ OwnL w' w.heap.size v l ∧ Srt l ∧ (∀ s, s ∈ l ↔ P s) ∧ Below w.heap.size w w'
theorem strL_one (l : List ByteArray) (u : Value) (h : u ∈ l.map Value.string) : u.oneCell' = true := by
  obtain ⟨x, _, rfl⟩ := List.mem_map.1 h
  rfl
theorem OwnL.src {w : World} {base g cap n : Nat} {l : List ByteArray} (h : OwnL w base (.slice (some ⟨g, 0, none⟩) n cap) l) (hn : n = l.length) (j : Nat) (u : Value) (hj : (l.map Value.string)[j]? = some u) : w.cell? ((⟨g, 0, none⟩ : Addr).add j) = some u := by
  have hlt : j < l.length := by
    have := (List.getElem?_eq_some_iff.1 hj).1
    simpa using this
  rw [Addr.add_lit, Nat.zero_add, h.cell hn hlt, ← hj, List.getElem?_map, getL_some hlt]
  rfl
/-- the texts as a list. -/
def lsT (S : Nat → ByteArray) (m : Nat) : List ByteArray := (List.range m).map S
theorem lsT_len (S : Nat → ByteArray) (m : Nat) : (lsT S m).length = m := by simp [lsT]
theorem lsT_mem {S : Nat → ByteArray} {m : Nat} {s : ByteArray} : s ∈ lsT S m ↔ ∃ i, i < m ∧ S i = s := by
  unfold lsT
  simp [List.mem_map, List.mem_range]
theorem lsT_src {w : World} {b o m : Nat} {S : Nat → ByteArray} (hc : ∀ i, i < m → w.cell? ⟨b, o + i, none⟩ = some (.string (S i))) (j : Nat) (u : Value) (hj : ((lsT S m).map Value.string)[j]? = some u) : w.cell? ((⟨b, o, none⟩ : Addr).add j) = some u := by
  have hlt : j < m := by
    have := (List.getElem?_eq_some_iff.1 hj).1
    simpa [lsT] using this
  rw [Addr.add_lit, hc j hlt, ← hj]
  simp [lsT, hlt]

theorem wp_append_run {P : Program} {o : Oper} {a : Act} {w : World} {K : Act → World → Prop} {Q : Exit → Act → World → Prop} (s x : Operand) (t : TypeId) (ho : o.op = .call { callee := .builtin .append, args := #[s, x], argTypes := #[t, t] }) (v u v' : Value) (w' : World) (hr : (Builtin.append_ #[t, t] o.type #[v, u]).run P w = .ok v' w') (hs : a.eval s = v) (hx : a.eval x = u) (h : K (a.put o.dst v') w') : o.wp P a w K Q := by
  unfold Oper.wp execOp
  simp only [ho, resolve, invoke, builtin, Sem.run_bind, Sem.run_pure, Result.andThen_ok, List.map_toArray, List.map_cons, List.map_nil, hs, hx, hr]
  exact h
theorem wpList_append_run {P : Program} {ops : Array Oper} {rest : List Oper} {o : Oper} {a : Act} {w : World} {Q : Exit → Act → World → Prop} (hgd : o.guard = none) (s x : Operand) (t : TypeId) (ho : o.op = .call { callee := .builtin .append, args := #[s, x], argTypes := #[t, t] }) (v u v' : Value) (w' : World) (hr : (Builtin.append_ #[t, t] o.type #[v, u]).run P w = .ok v' w') (hs : a.eval s = v) (hx : a.eval x = u) (h : wpList P ops Q rest (a.put o.dst v') w') : wpList P ops Q (o :: rest) a w :=
  wpList_plain hgd fun _ hK => wp_append_run s x t ho v u v' w' hr hs hx (hK _ _ h)
/-- appending behind a row of texts: what the walk meets. -/
theorem app_str (W : World) (base : Nat) (v : Value) (l news : List ByteArray) (sv : Value) (n : Nat) (ty : TypeId) (hn : news.length = n) (hown : OwnL W base v l) (hb : base ≤ W.heap.size) (hsz : l.length + n ≤ 1000000)
    (hv : (∃ g cap, v = .slice (some ⟨g, 0, none⟩) l.length cap) ) (hs : (n = 0 ∧ sv = .slice none 0 0) ∨ ∃ b o c, sv = .slice (some ⟨b, o, none⟩) n c ∧ ∀ j u, (news.map Value.string)[j]? = some u → W.cell? ((⟨b, o, none⟩ : Addr).add j) = some u) :
    ∃ g' cap' w', (Builtin.append_ #[25, 25] ty #[v, sv]).run Tryz.prog W = .ok (.slice (some ⟨g', 0, none⟩) (l.length + n) cap') w' ∧ OwnL w' base (.slice (some ⟨g', 0, none⟩) (l.length + n) cap') (l ++ news) ∧ W.grownBy w' v.ownBlock := by
  obtain ⟨i0, hi, hz0, hz1, hz2⟩ := info_parts Tryz.infoString
  obtain ⟨g, cap, rfl⟩ := hv
  have hmk : ∀ g' cap' w', OwnL w' base (.slice (some ⟨g', 0, none⟩) (l.length + n) cap') (l ++ news) ↔ w'.ownsRow base 9 1 (.slice (some ⟨g', 0, none⟩) (l.length + n) cap') (l.length + n) (l.map Value.string ++ news.map Value.string) := fun g' cap' w' => by
    unfold OwnL
    rw [List.length_append, hn, List.map_append]
  rcases hs with ⟨h0, rfl⟩ | ⟨b, o, c, rfl, hsrc⟩
  · subst h0
    have hnil : news = [] := List.length_eq_zero_iff.1 hn
    subst hnil
    have hc1 : l.length ≤ cap := by
      rcases hown.shape with ⟨h1, _⟩ | ⟨_, _, h1, _, _, h2, _⟩
      · cases h1
      · injection h1 with _ _ h3; omega
    have hap := run_append_room_src (P := Tryz.prog) (w := W) 25 25 ty 9 i0 Tryz.underlying25 hi g 0 l.length cap (.slice none 0 0) 0 [] (Src.ofNil _ Tryz.underlying25 0) hc1 (fun j hj => absurd hj (Nat.not_lt_zero _)) (fun j hj => absurd hj (Nat.not_lt_zero _))
    simp only [World.setCells, Nat.add_zero] at hap
    refine ⟨g, cap, W, by simpa using hap, ?_, ⟨rfl, rfl, rfl, Nat.le_refl _, fun _ _ _ => rfl⟩⟩
    rw [List.append_nil, Nat.add_zero]
    exact hown
  · rcases Nat.eq_zero_or_pos n with h0 | hpos
    · subst h0
      have hnil : news = [] := List.length_eq_zero_iff.1 hn
      subst hnil
      obtain ⟨v', w', hr, h2, h3, h4⟩ := run_append_own (P := Tryz.prog) W base 25 ty 9 i0 (.string ByteArray.empty) 1 16 Tryz.underlying25 hi hz0 hz1 hz2 rfl (by decide) _ _ _ hown ⟨b, o, none⟩ 0 c [] rfl (fun j u hj => by cases hj) (fun u hu => by cases hu) (by unfold maxLen; omega) (by omega) hb
      rcases h2.2 with ⟨e, _⟩ | ⟨g', cap', cur, e, _⟩
      · exact absurd (h4.1 e).1 (by simp)
      · subst e
        exact ⟨g', cap', w', hr, (hmk _ _ _).2 h2, h3⟩
    · obtain ⟨g', cap', w', hr, h2, h3, _, _⟩ := run_append_lies (P := Tryz.prog) W 25 ty base 9 i0 (.string ByteArray.empty) 1 16 Tryz.underlying25 hi hz0 hz1 hz2 rfl (by decide) _ _ _ hown ⟨b, o, none⟩ n c (news.map Value.string) (by simp [hn]) hsrc (strL_one news) hpos (by unfold maxLen; omega) (by omega) hb _ rfl
      exact ⟨g', cap', w', hr, (hmk _ _ _).2 h2, h3⟩

set_option maxRecDepth 100000 in
set_option maxHeartbeats 2000000 in
theorem fullS_sl {a : Option Addr} {n cap : Nat} {E : Nat → Ev} {ib io m icap : Nat} {S : Nat → ByteArray} (w : World) (hroom : roomTo E n = true) (h : SlV w a n cap E) (hids : SlS w (some ⟨ib, io, none⟩) m icap S) (hm : m ≤ 300) (hth : ∀ i, i < m → 0 ≤ posV E n (S i)) :
    Calls Tryz.prog 33 #[.agg #[.slice a n cap], .slice (some ⟨ib, io, none⟩) m icap] w (FuPost w (fun s => (∃ i, i < m ∧ S i = s) ∨ Chn E n S m s)) := by
  have h300 := room_300 hroom
  obtain ⟨wa, hwa⟩ : ∃ wa, wa = w.alloc (.cells #[.slice a n cap] 32) := ⟨_, rfl⟩
  have hba : Below w.heap.size w wa := by rw [hwa]; exact (Below.refl _ _).alloc (Nat.le_refl _) _
  have hza : wa.heap.size = w.heap.size + 1 := by rw [hwa]; simp
  obtain ⟨wc, hwc⟩ : ∃ wc, wc = wa.alloc (.cells #[] 9) := ⟨_, rfl⟩
  have hbc : Below wa.heap.size wa wc := by rw [hwc]; exact (Below.refl _ _).alloc (Nat.le_refl _) _
  have hwcb := hba.trans (hbc.mono hba.size)
  have hca : Hid (∀ W, Below wa.heap.size wa W → W.cell? ⟨w.heap.size, 0, none⟩ = some (.slice a n cap)) := fun W hW => (hW.cell (by show w.heap.size < wa.heap.size; omega)).trans (by rw [hwa]; exact World.cell?_alloc_at _ _ _ _ rfl)
  have hown0 : OwnL wc wa.heap.size (.slice (some ⟨wa.heap.size, 0, none⟩) 0 0) [] := by rw [hwc]; exact OwnL.new wa _ (Nat.le_refl _)
  have hiw := hids.below hwcb
  have hsrc : ∀ j u, ((lsT S m).map Value.string)[j]? = some u → wc.cell? ((⟨ib, io, none⟩ : Addr).add j) = some u := fun j u hj => by
    rcases hiw.cells with h0 | ⟨bi, oi, e, _, hci⟩
    · subst h0; simp [lsT] at hj
    · injection e with e
      injection e with e1 e2
      subst e1 e2
      exact lsT_src hci j u hj
  have Hap : Hid (∀ ty, ∃ g' cap' w', (Builtin.append_ #[25, 25] ty #[.slice (some ⟨w.heap.size + 1, 0, none⟩) 0 0, .slice (some ⟨ib, io, none⟩) m icap]).run Tryz.prog ((w.alloc (.cells #[.slice a n cap] 32)).alloc (.cells #[] 9)) = .ok (.slice (some ⟨g', 0, none⟩) m cap') w' ∧ OwnL w' wa.heap.size (.slice (some ⟨g', 0, none⟩) m cap') (lsT S m) ∧ Below wa.heap.size wa w') := fun ty => by
    obtain ⟨g', cap', w', h1, h2, h3⟩ := app_str wc wa.heap.size (.slice (some ⟨wa.heap.size, 0, none⟩) 0 0) [] (lsT S m) (.slice (some ⟨ib, io, none⟩) m icap) m ty (lsT_len S m) hown0 hbc.size (by simp; omega) ⟨_, _, rfl⟩ (Or.inr ⟨ib, io, icap, rfl, hsrc⟩)
    simp only [List.length_nil, Nat.zero_add, List.nil_append] at h1 h2
    refine ⟨g', cap', w', ?_, h2, hbc.grown h3 hbc.size (fun k hk => by
      have : some wa.heap.size = some k := hk
      injection this with this
      omega)⟩
    rw [← hwa, ← hwc, ← hza]
    exact h1
  have Hch : Hid (∀ W, Below w.heap.size w W → Calls Tryz.prog 52 #[.agg #[.slice a n cap], .slice (some ⟨ib, io, none⟩) m icap] W (ChPost W E n S m)) := fun W hW => l2Chain_sl W hroom (h.below hW) (hids.below hW) (by omega) hth
  have Hsz : Hid (∀ s, (∃ i, i < m ∧ S i = s) ∨ Chn E n S m s → s.size ≤ maxLen) := fun s hs => by
    have key : ∀ j, j < n → (E j).id.size ≤ maxLen := fun j hj => by
      rcases h.cells with h0 | ⟨_, _, _, _, hc⟩
      · omega
      · obtain ⟨_, _, _, _, _, _, _, hok⟩ := hc j hj
        exact hok.hid
    rcases hs with ⟨i, hi, rfl⟩ | hs
    · obtain ⟨j, hj, _, e⟩ := posV_found E (S i) n (hth i hi)
      rw [← ba_of_toList e]
      exact key j hj
    · obtain ⟨j, hj, rfl⟩ := chn_id hroom hs
      exact key j hj
  have Hlen : Hid (∀ l, Srt l → (∀ s, s ∈ l ↔ Chn E n S m s) → l.length ≤ 300) := fun l h1 h2 =>
    Nat.le_trans (ids_len hroom h1.nodup (fun s hs => chn_id hroom ((h2 s).1 hs))) h300
  have HFin : Hid (∀ (w3 : World) (v3 : Value) (l2 : List ByteArray), Below w.heap.size w w3 → OwnL w3 w.heap.size v3 (lsT S m ++ l2) → l2.length ≤ 300 → (∀ s, s ∈ l2 ↔ Chn E n S m s) → ∀ a3 c3, v3 = .slice a3 (m + l2.length) c3 → Calls Tryz.prog 51 #[.slice a3 (m + l2.length) c3] w3 (FuPost w (fun s => (∃ i, i < m ∧ S i = s) ∨ Chn E n S m s))) := fun w3 v3 l2 hw3 ho h1 h3 a3 c3 e3 => by
    have hmemL : ∀ s, s ∈ lsT S m ++ l2 ↔ (∃ i, i < m ∧ S i = s) ∨ Chn E n S m s := fun s => by rw [List.mem_append, lsT_mem, h3]
    obtain ⟨a4, c4, e4, hsl, _⟩ := ho.sl (fun s hs => Hsz.out s ((hmemL s).1 hs))
    have hl3 : (lsT S m ++ l2).length = m + l2.length := by rw [List.length_append, lsT_len]
    rw [hl3] at e4 hsl
    rw [e4] at e3
    injection e3 with e31 _ e33
    subst e31 e33
    refine (l2s_sl w3 (by omega) hsl).mono ?_
    rintro x w4 ⟨v, l, rfl, ho4, hs4, hm4, hb4⟩
    refine ⟨v, l, rfl, ho4.mono hw3.size, hs4, fun s => ?_, hw3.trans (hb4.mono hw3.size)⟩
    refine ((hm4 s).trans ?_).trans (hmemL s)
    constructor
    · rintro ⟨i, hi, e⟩
      rw [← e]
      exact getL_mem (by rw [hl3]; exact hi)
    · intro hs
      obtain ⟨i, hi, e⟩ := mem_getL hs
      exact ⟨i, by rw [← hl3]; exact hi, e⟩
  obtain ⟨g1, cc1, w1, hap1, ho1, hb1⟩ := Hap.out 25
  have c1 := hca.out _ hb1
  have hw1 := hba.trans (hb1.mono hba.size)
  have Hs1 : Hid (wa.heap.size ≤ w1.heap.size) := hb1.size
  clear Hap hsrc hiw hown0 hwcb hbc hwc hroom h hids hth
  go_enter Tryz.func33, Tryz.ntmps33
  go_wp2_with (at_builtin; refine wpList_append_run rfl _ _ 25 rfl _ _ _ _ hap1 rfl rfl ?_; clear hap1)
  refine (Hch.out _ hw1).mono ?_
  rintro x w2 ⟨v2, l2, rfl, ho2, hs2, hm2, hb2⟩
  have hl2 := Hlen.out l2 hs2 hm2
  have hw2 := hw1.trans (hb2.mono hw1.size)
  have ho1' := ho1.below hb2
  have Hm2 : Hid (∀ s, s ∈ l2 ↔ Chn E n S m s) := hm2
  obtain ⟨a2, c2, hv2, hss⟩ : ∃ a2 c2, v2 = .slice a2 l2.length c2 ∧ ((l2.length = 0 ∧ v2 = .slice none 0 0) ∨ ∃ b o c, v2 = .slice (some ⟨b, o, none⟩) l2.length c ∧ ∀ j u, (l2.map Value.string)[j]? = some u → w2.cell? ((⟨b, o, none⟩ : Addr).add j) = some u) := by
    rcases ho2.shape with ⟨rfl, rfl⟩ | ⟨g2, cc2, rfl, _, _, _, _⟩
    · exact ⟨none, 0, rfl, Or.inl ⟨rfl, rfl⟩⟩
    · exact ⟨_, _, rfl, Or.inr ⟨g2, 0, cc2, rfl, fun j u hj => ho2.src rfl j u hj⟩⟩
  subst hv2
  obtain ⟨g3, cc3, w3, hap3, ho3, hg3⟩ := app_str w2 wa.heap.size (.slice (some ⟨g1, 0, none⟩) m cc1) (lsT S m) l2 (.slice a2 l2.length c2) l2.length 25 rfl ho1' (by have := Hs1.out; have := hb2.size; omega) (by rw [lsT_len]; omega) ⟨g1, cc1, by rw [lsT_len]⟩ hss
  rw [lsT_len] at hap3 ho3
  have hw3 : Below w.heap.size w w3 := hw2.grown hg3 hw2.size (fun q hq => by
    have := (World.ownsRow.lt ho1 q hq).1
    have := hba.size
    omega)
  have HCall : Hid (Calls Tryz.prog 51 #[.slice (some ⟨g3, 0, none⟩) (m + l2.length) cc3] w3 (FuPost w (fun s => (∃ i, i < m ∧ S i = s) ∨ Chn E n S m s))) := HFin.out w3 _ l2 hw3 (ho3.mono (by omega)) hl2 Hm2.out _ _ rfl
  clear HFin hm2 hs2 ho2 hss ho3 hg3 ho1' ho1 Hch Hlen Hsz
  go_wp2_with (at_builtin; refine wpList_append_run rfl _ _ 25 rfl _ _ _ _ hap3 rfl rfl ?_; clear hap3)
  refine HCall.out.mono ?_
  rintro x w4 ⟨v4, l4, rfl, q1, q2, q3, q4⟩
  have HP : Hid (FuPost w (fun s => (∃ i, i < m ∧ S i = s) ∨ Chn E n S m s) (.returned v4) w4) := ⟨v4, l4, rfl, q1, q2, q3, q4⟩
  clear q1 q2 q3 q4
  go_wp2
  go_ret
  exact HP.out
end Go.Proofs.YtfjfhnjoghlbfaaGreat
