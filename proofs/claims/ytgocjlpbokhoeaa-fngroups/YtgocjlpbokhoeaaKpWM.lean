import Derived.Test.YtgocjlpbokhoeaaGqP
import Derived.Test.YtgocjlpbokhoeaaGlD
import Derived.Test.YtgocjlpbokhoeaaProg
import Derived.Test.YtgocjlpbokhoeaaEntM
import Derived.OwnWalk
import Derived.Deep.AppendLies
import Derived.Laws.OwnMore
namespace Go.Proofs.Ytgocjlpbokhoeaa
open Go.RowKit
def Ty6 (l : List Ent) : Prop := ∀ x ∈ l, x.ty.size ≤ 6
theorem Ty6.set {l : List Ent} {e : Ent} {keep : Bool} (h : Ty6 l) (he : e.ty.size ≤ 6) : Ty6 (setL l e keep) := fun x hx => (setL_mem hx).elim (h x) fun e' => e' ▸ he
theorem eAt_mem0 (l : List Ent) (i : Nat) : eAt l i ∈ l ∨ eAt l i = Ent.none := by
  by_cases h : i < l.length
  · exact Or.inl (eAt_mem l i h)
  · refine Or.inr ?_
    unfold eAt
    rw [List.getD_eq_getElem?_getD, List.getElem?_eq_none (by omega)]
    rfl
theorem Ty6.at {l : List Ent} (h : Ty6 l) (i : Nat) : (eAt l i).ty.size ≤ 6 := by
  rcases eAt_mem0 l i with h1 | h1
  · exact h _ h1
  · rw [h1]; decide
theorem Ty6.pat {l ch : List Ent} (h : Ty6 l) (hc : Ty6 ch) : ∀ k, Ty6 (patL l ch k)
  | 0 => h
  | k + 1 => (h.pat hc k).set (hc.at k)
theorem Ty6.d1 {a b : List Ent} (h : Ty6 a) : ∀ k, Ty6 (dl1 a b k)
  | 0 => fun _ hx => by cases hx
  | k + 1 => by
    unfold dl1
    split
    · exact h.d1 k
    · exact (h.d1 k).set (h.at k)
theorem Ty6.d2 {a b : List Ent} (h : Ty6 a) (hb : Ty6 b) : ∀ k, Ty6 (dl2 a b k)
  | 0 => h.d1 _
  | k + 1 => by
    unfold dl2
    split
    · exact (h.d2 hb k).set (hb.at k)
    · exact h.d2 hb k
theorem Ty6.exp {G : Nat → Grp} (h : ∀ j, Ty6 (G j).sets) : ∀ f i, Ty6 (expF G f i)
  | 0, _ => fun _ hx => by cases hx
  | f + 1, i => by
    unfold expF
    split
    · exact h i
    · exact (Ty6.exp h f _).pat (h i) _
theorem slE_ty (k : Nat) : (slE k).ty.size ≤ 6 := by
  show (tyS k).size ≤ 6
  unfold tyS
  repeat' split
  all_goals decide
theorem set_st {l : List Ent} {e : Ent} (h : SrtE l) (hi : Ids l) : SrtE (setL l e false) ∧ Ids (setL l e false) := by
  refine ⟨setL_srt h e false, fun x hx => ?_⟩
  rcases (setL_in h e false x).1 hx with h1 | ⟨rfl, h1⟩
  · exact hi x h1.1
  · rw [kept_ff] at h1
    cases hq : x.id.toList.isEmpty
    · rfl
    · rw [hq] at h1; cases h1
theorem dwL_st (bs : Nat → Nat) (m q : Nat) : ∀ k, SrtE (dwL bs m q k) ∧ Ids (dwL bs m q k) ∧ Ty6 (dwL bs m q k) ∧ (dwL bs m q k).length ≤ k
  | 0 => ⟨List.Pairwise.nil, (fun _ hx => by cases hx), (fun _ hx => by cases hx), Nat.le_refl _⟩
  | k + 1 => by
    obtain ⟨h1, h2, h3, h4⟩ := dwL_st bs m q k
    have h5 := setL_len (dwL bs m q k) (slE (nxB bs m (qnx m k q))) false
    exact ⟨(set_st h1 h2).1, (set_st h1 h2).2, h3.set (slE_ty _), by show (setL _ _ false).length ≤ _; omega⟩
theorem drL_st (bs : Nat → Nat) (m q : Nat) : SrtE (drL bs m q) ∧ Ids (drL bs m q) ∧ Ty6 (drL bs m q) ∧ (drL bs m q).length ≤ 7 := by
  obtain ⟨h1, h2, h3, h4⟩ := dwL_st bs m (nxQ m q) (nxB bs m q % 7)
  exact ⟨h1, h2, h3, by have : nxB bs m q % 7 < 7 := Nat.mod_lt _ (by decide); show (dwL bs m (nxQ m q) (nxB bs m q % 7)).length ≤ 7; omega⟩
def spL (l : List Ent) (k : Nat) : List Ent :=
  if l.length = 0 then l ++ [⟨⟨#[120]⟩, ⟨#[]⟩, ⟨#[]⟩⟩]
  else if k % 3 = 0 then l.set (k / 3 % l.length) ⟨(eAt l (k / 3 % l.length)).ty, (eAt l (k / 3 % l.length)).key, ⟨#[]⟩⟩
  else if k % 3 = 1 then l ++ [eAt l (k / 3 % l.length)]
  else l.set (k / 3 % l.length) ⟨⟨#[122, 122]⟩, (eAt l (k / 3 % l.length)).key, (eAt l (k / 3 % l.length)).id⟩
theorem mem_setE {l : List Ent} {i : Nat} {e x : Ent} (h : x ∈ l.set i e) : x ∈ l ∨ x = e := (List.mem_or_eq_of_mem_set h)
theorem spL_p {P : Ent → Prop} {l : List Ent} (k : Nat) (h : ∀ x ∈ l, P x) (h0 : P ⟨⟨#[120]⟩, ⟨#[]⟩, ⟨#[]⟩⟩) (h1 : ∀ x, P x → P ⟨x.ty, x.key, ⟨#[]⟩⟩) (h2 : ∀ x, P x → P ⟨⟨#[122, 122]⟩, x.key, x.id⟩) : ∀ x ∈ spL l k, P x := by
  unfold spL
  by_cases hl : l.length = 0
  · rw [if_pos hl]
    intro x hx
    rcases List.mem_append.1 hx with hx | hx
    · exact h x hx
    · rw [List.mem_singleton.1 hx]; exact h0
  · rw [if_neg hl]
    have hi : k / 3 % l.length < l.length := Nat.mod_lt _ (by omega)
    have he := h _ (eAt_mem l _ hi)
    split
    · exact fun x hx => (mem_setE hx).elim (h x) fun e => e ▸ h1 _ he
    · split
      · intro x hx
        rcases List.mem_append.1 hx with hx | hx
        · exact h x hx
        · rw [List.mem_singleton.1 hx]; exact he
      · exact fun x hx => (mem_setE hx).elim (h x) fun e => e ▸ h2 _ he
theorem spL_len (l : List Ent) (k : Nat) : (spL l k).length ≤ l.length + 1 := by
  unfold spL
  repeat' split
  all_goals simp
theorem spL_ok {l : List Ent} (k : Nat) (h : AllOk l) : AllOk (spL l k) := spL_p k h ⟨by decide, by decide, by decide⟩ (fun x hx => ⟨hx.1, hx.2.1, Nat.zero_le _⟩) (fun x hx => ⟨(by decide : 2 ≤ maxLen), hx.2.1, hx.2.2⟩)
theorem spL_ty {l : List Ent} (k : Nat) (h : Ty6 l) : Ty6 (spL l k) := spL_p k h (by decide) (fun x hx => hx) (fun x _ => (by decide : 2 ≤ 6))
def daL (bs : Nat → Nat) (m q : Nat) : List Ent := if nxB bs m q % 6 = 5 then spL (drL bs m (nxQ m q)) (nxB bs m (drLq bs m (nxQ m q))) else drL bs m (nxQ m q)
def daLq (bs : Nat → Nat) (m q : Nat) : Nat := if nxB bs m q % 6 = 5 then nxQ m (drLq bs m (nxQ m q)) else drLq bs m (nxQ m q)
theorem daL_ty (bs : Nat → Nat) (m q : Nat) : Ty6 (daL bs m q) := by
  unfold daL
  split
  · exact spL_ty _ (drL_st bs m _).2.2.1
  · exact (drL_st bs m _).2.2.1
theorem daL_len (bs : Nat → Nat) (m q : Nat) : (daL bs m q).length ≤ 8 := by
  have := (drL_st bs m (nxQ m q)).2.2.2
  unfold daL
  split
  · have := spL_len (drL bs m (nxQ m q)) (nxB bs m (drLq bs m (nxQ m q))); omega
  · omega
noncomputable def fnC (G : Nat → Grp) (s : List Ent) (n : Nat) : Int := Classical.choose (fnd_ex G s n)
theorem fnC_fnd (G : Nat → Grp) (s : List Ent) (n : Nat) : Fnd G s n (fnC G s n) := Classical.choose_spec (fnd_ex G s n)
def wpE (k : Nat) (e : Ent) : Ent := if k % 5 = 4 then ⟨e.ty, e.key, ⟨#[]⟩⟩ else e
def inL (bs : Nat → Nat) (m k : Nat) (s : List Ent) (q : Nat) : Nat → List Ent
  | 0 => s
  | j + 1 => setL (inL bs m k s q j) (wpE k (slE (nxB bs m (qnx m j q)))) false
structure Dst where
  n : Nat
  G : Nat → Grp
  s : List Ent
  g : Int
  q : Nat
def nrG (k i : Nat) (g : Int) : Int := if k % 8 = 7 then ((k / 8 % (i + 2) : Nat) : Int) - 1 else g
def stS (bs : Nat → Nat) (m : Nat) (d : Dst) : List Ent := inL bs m (nxB bs m d.q) d.s (nxQ m d.q) (1 + nxB bs m d.q % 2)
noncomputable def stpD (bs : Nat → Nat) (m i : Nat) (d : Dst) : Dst :=
  ⟨svN d.G d.n (stS bs m d) (fnC d.G (stS bs m d) d.n), extP d.G d.n (nwG d.G d.n (stS bs m d) (nrG (nxB bs m d.q) i d.g)), stS bs m d, svC d.G d.n (stS bs m d) (fnC d.G (stS bs m d) d.n), qnx m (1 + nxB bs m d.q % 2) (nxQ m d.q)⟩
noncomputable def runD (bs : Nat → Nat) (m q : Nat) : Nat → Dst
  | 0 => ⟨0, fun _ => ⟨-1, []⟩, drL bs m (nxQ m q), -1, drLq bs m (nxQ m q)⟩
  | i + 1 => stpD bs m i (runD bs m q i)
noncomputable def stoD (bs : Nat → Nat) (m q : Nat) : Dst := runD bs m q (1 + nxB bs m q % 8)
structure DstOk (d : Dst) (i : Nat) : Prop where
  sto : stoB d.G d.n = true
  le : d.n ≤ i
  pos : 0 < i → 0 < d.n
  srt : SrtE d.s
  ids : Ids d.s
  len : d.s.length ≤ 7 + 2 * i
  ty : Ty6 d.s
  gty : ∀ j, Ty6 (d.G j).sets
theorem wpE_ty (k b : Nat) : (wpE k (slE b)).ty.size ≤ 6 := by
  unfold wpE
  split
  · exact slE_ty b
  · exact slE_ty b
theorem inL_st {bs : Nat → Nat} {m k q : Nat} {s : List Ent} (h1 : SrtE s) (h2 : Ids s) (h3 : Ty6 s) : ∀ j, SrtE (inL bs m k s q j) ∧ Ids (inL bs m k s q j) ∧ Ty6 (inL bs m k s q j) ∧ (inL bs m k s q j).length ≤ s.length + j
  | 0 => ⟨h1, h2, h3, Nat.le_refl _⟩
  | j + 1 => by
    obtain ⟨i1, i2, i3, i4⟩ := inL_st (bs := bs) (m := m) (k := k) (q := q) h1 h2 h3 j
    have h5 := setL_len (inL bs m k s q j) (wpE k (slE (nxB bs m (qnx m j q)))) false
    exact ⟨(set_st i1 i2).1, (set_st i1 i2).2, i3.set (wpE_ty _ _), by show (setL _ _ false).length ≤ _; omega⟩
theorem Ty6.nw {G : Nat → Grp} {n : Nat} {s : List Ent} (near : Int) (h : ∀ j, Ty6 (G j).sets) (hs : Ty6 s) : Ty6 (nwG G n s near).sets := by
  cases e : nwB G n near
  · rw [nwG_no e]; exact hs
  · rw [nwG_yes e]; exact (Ty6.exp h _ _).d2 hs _
theorem Ty6.ext {G : Nat → Grp} {n : Nat} {g : Grp} (h : ∀ j, Ty6 (G j).sets) (hg : Ty6 g.sets) : ∀ j, Ty6 (extP G n g j).sets := fun j => by
  unfold extP
  split
  · exact hg
  · exact h j
theorem DstOk.step {bs : Nat → Nat} {m i : Nat} {d : Dst} (h : DstOk d i) (hi : i ≤ 8) : DstOk (stpD bs m i d) (i + 1) ∧ stB (stS bs m d) = true := by
  obtain ⟨i1, i2, i3, i4⟩ := inL_st (bs := bs) (m := m) (k := nxB bs m d.q) (q := nxQ m d.q) h.srt h.ids h.ty (1 + nxB bs m d.q % 2)
  have h2 : nxB bs m d.q % 2 < 2 := Nat.mod_lt _ (by decide)
  have hl := h.len
  have hle := h.le
  have hs : stB (stS bs m d) = true := st_of (by show (inL bs m _ d.s _ _).length ≤ 300; omega) i1 i2
  refine ⟨?_, hs⟩
  have hok : (stoB d.G d.n && stB (stS bs m d)) = true := by rw [h.sto, hs]; rfl
  have hf := fnC_fnd d.G (stS bs m d) d.n
  have hc : 0 ≤ svC d.G d.n (stS bs m d) (fnC d.G (stS bs m d) d.n) := by
    by_cases h0 : 0 ≤ fnC d.G (stS bs m d) d.n
    · rw [(sv_old hok h0).2]; exact h0
    · rw [(sv_new hok h0 (by omega)).2]; omega
  obtain ⟨g, e1, e2, e3, e4, _, _⟩ := sv_facts (near := nrG (nxB bs m d.q) i d.g) h.sto hs hf hc
  refine ⟨e4, ?_, fun _ => Nat.lt_of_le_of_lt (Nat.zero_le _) e2, i1, i2, by show (inL bs m _ d.s _ _).length ≤ _; omega, i3, Ty6.ext h.gty (Ty6.nw _ h.gty i3)⟩
  show svN d.G d.n (stS bs m d) (fnC d.G (stS bs m d) d.n) ≤ i + 1
  by_cases h0 : 0 ≤ fnC d.G (stS bs m d) d.n
  · rw [(sv_old hok h0).1]; omega
  · rw [(sv_new hok h0 (by omega)).1]; omega
theorem runD_ok (bs : Nat → Nat) (m q : Nat) : ∀ i, i ≤ 9 → DstOk (runD bs m q i) i
  | 0, _ => by
    obtain ⟨h1, h2, h3, h4⟩ := drL_st bs m (nxQ m q)
    exact ⟨rfl, Nat.le_refl _, fun h => absurd h (by decide), h1, h2, h4, h3, fun _ _ hx => by cases hx⟩
  | i + 1, h => ((runD_ok bs m q i (by omega)).step (by omega)).1
theorem stoD_ok (bs : Nat → Nat) (m q : Nat) : DstOk (stoD bs m q) (1 + nxB bs m q % 8) := by
  have : nxB bs m q % 8 < 8 := Nat.mod_lt _ (by decide)
  exact runD_ok bs m q _ (by omega)
theorem stoD_n (bs : Nat → Nat) (m q : Nat) : 0 < (stoD bs m q).n ∧ (stoD bs m q).n ≤ 8 := by
  have h := stoD_ok bs m q
  have h2 : nxB bs m q % 8 < 8 := Nat.mod_lt _ (by decide)
  have h3 := h.le
  exact ⟨h.pos (by omega), by omega⟩
end Go.Proofs.Ytgocjlpbokhoeaa
namespace Go.Proofs.Ytgocjlpbokhoeaa
open Go.RowKit
structure Kp (P : Nat → Prop) (w w' : World) : Prop where
  os : w'.os = w.os
  tape : w'.tape = w.tape
  output : w'.output = w.output
  size : w.heap.size ≤ w'.heap.size
  block : ∀ k, k < w.heap.size → ¬ P k → w'.heap[k]? = w.heap[k]?
theorem Kp.refl (P : Nat → Prop) (w : World) : Kp P w w := ⟨rfl, rfl, rfl, Nat.le_refl _, fun _ _ _ => rfl⟩
theorem Kp.trans {P : Nat → Prop} {a b c : World} (h : Kp P a b) (k : Kp P b c) : Kp P a c :=
  ⟨k.os.trans h.os, k.tape.trans h.tape, k.output.trans h.output, Nat.le_trans h.size k.size, fun i hi hP => (k.block i (Nat.lt_of_lt_of_le hi h.size) hP).trans (h.block i hi hP)⟩
theorem Kp.transN {P Q : Nat → Prop} {a b c : World} (h : Kp P a b) (k : Kp Q b c) (hQ : ∀ i, i < a.heap.size → Q i → P i) : Kp P a c :=
  ⟨k.os.trans h.os, k.tape.trans h.tape, k.output.trans h.output, Nat.le_trans h.size k.size, fun i hi hP => (k.block i (Nat.lt_of_lt_of_le hi h.size) (fun q => hP (hQ i hi q))).trans (h.block i hi hP)⟩
theorem Kp.mono {P Q : Nat → Prop} {w w' : World} (h : Kp P w w') (hPQ : ∀ i, i < w.heap.size → P i → Q i) : Kp Q w w' :=
  ⟨h.os, h.tape, h.output, h.size, fun i hi hQ => h.block i hi (fun p => hQ (hPQ i hi p))⟩
theorem Kp.ofB {w w' : World} {P : Nat → Prop} (h : Below w.heap.size w w') : Kp P w w' := ⟨h.os, h.tape, h.output, h.size, fun k hk _ => h.block k hk⟩
theorem Kp.cell {P : Nat → Prop} {w w' : World} (h : Kp P w w') {p : Addr} (hp : p.block < w.heap.size) (hP : ¬ P p.block) : w'.cell? p = w.cell? p := World.cell?_of_block (w := w) (h.block p.block hp hP)
theorem Kp.frozen {P : Nat → Prop} {w w' : World} (h : Kp P w w') {p : Addr} (hp : p.block < w.heap.size) (hP : ¬ P p.block) : w'.frozen? p = w.frozen? p := World.frozen?_of_block (w := w) (h.block p.block hp hP)
theorem Kp.alloc {P : Nat → Prop} {a w : World} (h : Kp P a w) (o : Obj) : Kp P a (w.alloc o) :=
  ⟨h.os, h.tape, h.output, by simp; have := h.size; omega, fun k hk hP => (Below.heap_alloc w o k (Nat.lt_of_lt_of_le hk h.size)).trans (h.block k hk hP)⟩
theorem Kp.setCell {P : Nat → Prop} {a w : World} (h : Kp P a w) {p : Addr} (hp : P p.block) (u : Value) : Kp P a (w.setCell p u) :=
  ⟨h.os, h.tape, h.output, by simpa [World.setCell] using h.size, fun k hk hP => (Below.heap_setCell w p u k (fun e => hP (e ▸ hp))).trans (h.block k hk hP)⟩
theorem Kp.grown {P : Nat → Prop} {a w w' : World} {row : Option Nat} (h : Kp P a w) (hg : w.grownBy w' row) (hr : ∀ k, row = some k → k < a.heap.size → P k) : Kp P a w' :=
  ⟨hg.os.trans h.os, hg.tape.trans h.tape, hg.output.trans h.output, Nat.le_trans h.size hg.size, fun k hk hP => (hg.block k (Nat.lt_of_lt_of_le hk h.size) (fun e => hP (hr k e.symm hk))).trans (h.block k hk hP)⟩
theorem ownsRow_kp {P : Nat → Prop} {w w' : World} {base e size n : Nat} {v : Value} {xs : List Value} (h : w.ownsRow base e size v n xs) (hk : Kp P w w') (hP : ∀ g, v.ownBlock = some g → ¬ P g) : w'.ownsRow base e size v n xs := by
  obtain ⟨h1, h2⟩ := h
  refine ⟨h1, ?_⟩
  rcases h2 with h2 | ⟨g, cap, cur, hv, hg, hh, r⟩
  · exact Or.inl h2
  · have hlt : g < w.heap.size := by
      rcases Nat.lt_or_ge g w.heap.size with h' | h'
      · exact h'
      · rw [Array.getElem?_eq_none h'] at hh; cases hh
    exact Or.inr ⟨g, cap, cur, hv, hg, by rw [hk.block g hlt (hP g (by rw [hv]; rfl))]; exact hh, r⟩
end Go.Proofs.Ytgocjlpbokhoeaa
