import Derived.Test.YtgocjlpbokhoeaaGqT
import Derived.Deep.RegionHeld3
import Derived.Deep.AppendLies
namespace Go.Proofs.Ytgocjlpbokhoeaa
open Go.RowKit
theorem encP_set0 (G : Nat → Grp) (T : Nat → Lg) (n i : Nat) (hi : i < n) (x : Int) : (encP G T n).set (i * 2) (.int .i64 x) = encP (extP G i ⟨x, (G i).sets⟩) T n := by
  refine List.ext_getElem? fun k => ?_
  rw [List.getElem?_set]
  by_cases hk : i * 2 = k
  · subst hk
    have h1 := encP_get (extP G i ⟨x, (G i).sets⟩) T n i 0 hi (by decide)
    rw [Nat.add_zero] at h1
    rw [if_pos rfl, if_pos (by rw [encP_len]; omega), h1]
    simp [gpL, extP]
  · rw [if_neg hk]
    by_cases hkn : k < n * 2
    · have e : k = k / 2 * 2 + k % 2 := by omega
      rw [e, encP_get G T n (k / 2) (k % 2) (by omega) (by omega), encP_get _ T n (k / 2) (k % 2) (by omega) (by omega)]
      by_cases hj : k / 2 = i
      · have hr : k % 2 = 1 := by omega
        rw [hj, hr]
        simp [gpL, extP]
      · unfold extP
        rw [if_neg hj]
    · rw [List.getElem?_eq_none (by rw [encP_len]; omega), List.getElem?_eq_none (by rw [encP_len]; omega)]
theorem QP.par {w : World} {g : Grp} {t : Lg} (h : QP w g t) (x : Int) : QP w ⟨x, g.sets⟩ t := ⟨h.sl, h.wr, h.iv, h.hh, h.ow, h.oh⟩
theorem RowP.putP {w : World} {base n g c i : Nat} {G : Nat → Grp} {T : Nat → Lg} (h : RowP w base (.slice (some ⟨g, 0, .none⟩) n c) n G T) (hi : i < n) (x : Int) : RowP (w.setCell ⟨g, i * 2, .none⟩ (.int .i64 x)) base (.slice (some ⟨g, 0, .none⟩) n c) n (extP G i ⟨x, (G i).sets⟩) T := by
  refine ⟨?_, fun j hj => ?_, h.low, h.ord, h.apart⟩
  · rw [← encP_set0 G T n i hi x]
    exact (World.ownsRow.stored h.own (i * 2) (.int .i64 x)).1
  · have hq : QP (w.setCell ⟨g, i * 2, .none⟩ (.int .i64 x)) (G j) (T j) := (h.q j hj).kept (by simp [World.setCell]) fun b h1 h2 => Below.heap_setCell _ _ _ _ (by show b ≠ g; have := h.apart g rfl j hj; omega)
    unfold extP
    by_cases e : j = i
    · subst e; rw [if_pos rfl]; exact hq.par x
    · rw [if_neg e]; exact hq
def addG (G : Nat → Grp) (n : Nat) : Nat → Grp := fun i => if i < n then G i else ⟨(i : Int) - 1, []⟩
def ssN (n k : Nat) : Nat := if k % 4 = 2 then n + (4 + k / 16 % 2) else if k % 4 = 3 then n + 1 else n
def ssG (bs : Nat → Nat) (m n : Nat) (G : Nat → Grp) (k q : Nat) : Nat → Grp :=
  if k % 4 = 0 then extP G (k / 4 % n) ⟨((k / 16 : Nat) : Int) - 3, (G (k / 4 % n)).sets⟩
  else if k % 4 = 1 then extP G (k / 4 % n) ⟨(G (k / 4 % n)).par, spL (G (k / 4 % n)).sets (nxB bs m q)⟩
  else if k % 4 = 2 then addG G n
  else extP G n ⟨((k / 4 % n : Nat) : Int), [⟨⟨#[116, 111, 112, 105, 99]⟩, ⟨#[]⟩, ⟨#[]⟩⟩]⟩
def ssQ (m k q : Nat) : Nat := if k % 4 = 1 then nxQ m q else q
theorem ssN_pos {n k : Nat} (h : 0 < n) : 0 < ssN n k ∧ ssN n k ≤ n + 5 := by
  unfold ssN
  have : k / 16 % 2 < 2 := Nat.mod_lt _ (by decide)
  repeat' split
  all_goals omega
theorem ssG_ty {bs : Nat → Nat} {m n : Nat} {G : Nat → Grp} {k q : Nat} (h : ∀ j, Ty6 (G j).sets) : ∀ j, Ty6 (ssG bs m n G k q j).sets := by
  unfold ssG
  split
  · exact Ty6.ext h (h _)
  · split
    · exact Ty6.ext h (spL_ty _ (h _))
    · split
      · intro j
        unfold addG
        split
        · exact h j
        · exact fun _ hx => by cases hx
      · exact Ty6.ext h (fun x hx => by rw [List.mem_singleton.1 hx]; decide)
def KW (L : Nat) (W W' : World) : Prop := W.heap.size ≤ W'.heap.size ∧ ∀ b, L ≤ b → b < W.heap.size → W'.heap[b]? = W.heap[b]?
theorem KW.refl (L : Nat) (W : World) : KW L W W := ⟨Nat.le_refl _, fun _ _ _ => rfl⟩
theorem KW.trans {L : Nat} {W W1 W2 : World} (h : KW L W W1) (h' : KW L W1 W2) : KW L W W2 := ⟨Nat.le_trans h.1 h'.1, fun b h1 h2 => (h'.2 b h1 (Nat.lt_of_lt_of_le h2 h.1)).trans (h.2 b h1 h2)⟩
theorem KW.up {L L' : Nat} {W W' : World} (h : KW L W W') (hl : L ≤ L') : KW L' W W' := ⟨h.1, fun b h1 h2 => h.2 b (by omega) h2⟩
theorem KW.blw {L : Nat} {W W' : World} (h : Below W.heap.size W W') : KW L W W' := ⟨h.size, fun b _ hb => h.block b hb⟩
theorem KW.set {L c : Nat} (W : World) (hc : c < L) (j : Nat) (x : Value) : KW L W (W.setCell ⟨c, j, none⟩ x) := ⟨by simp [World.setCell], fun b h1 _ => Below.heap_setCell _ _ _ _ (by show b ≠ c; omega)⟩
theorem KW.dwf {p L m q : Nat} {W W' : World} {bs : Nat → Nat} (h : DwF p W W' bs m q) (hp : p < L) : KW L W W' := ⟨h.size, fun b h1 h2 => h.2.block b h2 (fun e => by injection e with e; omega)⟩
theorem RowP.kw {w W : World} {base n : Nat} {v : Value} {G : Nat → Grp} {T : Nat → Lg} (h : RowP w base v n G T) (hk : KW base w W) : RowP W base v n G T :=
  h.kept hk.1 (fun g hg => hk.2 g (h.gt g hg).1 (h.gt g hg).2) fun i hi b h1 h2 => hk.2 b (Nat.le_trans (h.low i hi) h1) (Nat.lt_of_lt_of_le h2 (h.q i hi).hh.2)
def SsPost (p base : Nat) (w : World) (bs : Nat → Nat) (m n : Nat) (G : Nat → Grp) (q : Nat) (e : Ending) (w' : World) : Prop := ∃ a c, e = .returned (.agg #[.slice a n c]) ∧ (∀ W, KW base w' W → SlT W a n c G) ∧ RdF w' p bs m q ∧ Kp (fun b => b = p ∨ base ≤ b) w w'
structure SbI (p base : Nat) (w : World) (bs : Nat → Nat) (m q : Nat) (W : World) (n : Nat) (G : Nat → Grp) (T : Nat → Lg) (g c : Nat) : Prop where
  bx : W.cell? ⟨w.heap.size, 0, none⟩ = some (.slice (some ⟨g, 0, none⟩) n c)
  fz : W.frozen? ⟨w.heap.size, 0, none⟩ = false
  rs : ∃ u, W.cell? ⟨w.heap.size + 1, 0, none⟩ = some u
  rf : W.frozen? ⟨w.heap.size + 1, 0, none⟩ = false
  row : RowP W base (.slice (some ⟨g, 0, none⟩) n c) n G T
  rd : RdF W p bs m q
  kp : Kp (fun b => b = p ∨ base ≤ b) w W
  sz : w.heap.size + 2 ≤ W.heap.size
  ng : g < w.heap.size ∨ w.heap.size + 2 ≤ g
  nt : ∀ i, i < n → (T i).hi ≤ w.heap.size ∨ w.heap.size + 2 ≤ (T i).lo
section
variable {p base : Nat} {w W : World} {bs : Nat → Nat} {m q n : Nat} {G : Nat → Grp} {T : Nat → Lg} {g c : Nat}
theorem SbI.fin (h : SbI p base w bs m q W n G T g c) (hp : p < base) (hb : base ≤ w.heap.size) : SsPost p base w bs m n G q (.returned (.agg #[.slice (some ⟨g, 0, none⟩) n c])) (W.setCell ⟨w.heap.size + 1, 0, none⟩ (.slice (some ⟨g, 0, none⟩) n c)) := by
  have hng := h.ng
  have hr := h.row.setB (C := w.heap.size + 1) (j := 0) (x := .slice (some ⟨g, 0, none⟩) n c) (fun q hq => by have := own_inj hq; omega) (fun i hi => by have := h.nt i hi; omega)
  have hT : ∀ W2, KW base (W.setCell ⟨w.heap.size + 1, 0, none⟩ (.slice (some ⟨g, 0, none⟩) n c)) W2 → SlT W2 (some ⟨g, 0, none⟩) n c G := fun W2 hW2 => by
    obtain ⟨a', c', e, hT⟩ := (hr.kw hW2).slt
    injection e with e1 _ e2
    subst e1 e2
    exact hT
  have hk : Kp (fun b => b = w.heap.size + 1) W (W.setCell ⟨w.heap.size + 1, 0, none⟩ (.slice (some ⟨g, 0, none⟩) n c)) := Kp.setCell (P := fun b => b = w.heap.size + 1) (Kp.refl _ _) (p := ⟨w.heap.size + 1, 0, none⟩) (show w.heap.size + 1 = w.heap.size + 1 from rfl) _
  exact ⟨_, _, rfl, hT, h.rd.kp hk (fun b h1 h2 => by omega), h.kp.transN hk (fun i _ hi => Or.inr (by omega))⟩
theorem SbI.push {X w3 : World} {gg cc : Nat} {t : Lg} (h : SbI p base w bs m q W n G T g c) (hp : p < base) (hb : base ≤ w.heap.size) (hX : Below W.heap.size W X) (hq : QP X (G n) t) (hlo : W.heap.size ≤ t.lo)
    (hown : w3.ownsRow base 46 2 (.slice (some ⟨gg, 0, none⟩) (n + 1) cc) (n + 1) (encP G T n ++ gpL (G n) t)) (hgr : X.grownBy w3 (some g)) (hgg : some g = some gg ∨ X.heap.size ≤ gg) :
    w3.cell? ⟨w.heap.size, 0, none⟩ = some (.slice (some ⟨g, 0, none⟩) n c) ∧ w3.frozen? ⟨w.heap.size, 0, none⟩ = false ∧ (∃ u, w3.cell? ⟨w.heap.size + 1, 0, none⟩ = some u) ∧ w3.frozen? ⟨w.heap.size + 1, 0, none⟩ = false ∧ SbI p base w bs m q (w3.setCell ⟨w.heap.size, 0, none⟩ (.slice (some ⟨gg, 0, none⟩) (n + 1) cc)) (n + 1) G (extL T n t) gg cc := by
  have hng := h.ng
  have hs := h.sz
  have hgl := h.row.some_lt
  have hsX := hX.size
  have hs3 := hgr.size
  have far : ∀ q, q < W.heap.size → q ≠ g → ∀ o, w3.cell? ⟨q, o, none⟩ = W.cell? ⟨q, o, none⟩ := fun q h2 h3 o => (hgr.cell_far _ (by show q < X.heap.size; omega) (fun e => by
    have e2 : some q = some g := e
    injection e2 with e2
    omega)).trans (hX.cell (by exact h2))
  have farz : ∀ q, q < W.heap.size → q ≠ g → ∀ o, w3.frozen? ⟨q, o, none⟩ = W.frozen? ⟨q, o, none⟩ := fun q h2 h3 o => (hgr.frozen_far _ (by show q < X.heap.size; omega) (fun e => by
    have e2 : some q = some g := e
    injection e2 with e2
    omega)).trans (hX.frozen (by exact h2))
  have c3 := (far w.heap.size (by omega) (by omega) 0).trans h.bx
  have z3 := (farz w.heap.size (by omega) (by omega) 0).trans h.fz
  have hVs := (h.row.below hX).snoc hq (by omega) (fun i hi => Nat.le_trans (h.row.q i hi).hh.2 hlo) (fun q hq => Or.inl (by have := own_inj hq; omega)) hown hgr hgg
  have hg3 : gg < w.heap.size ∨ w.heap.size + 2 ≤ gg := by
    rcases hgg with q | q
    · injection q with q; omega
    · omega
  have hT2 : ∀ i, i < n + 1 → (extL T n t i).hi ≤ w.heap.size ∨ w.heap.size + 2 ≤ (extL T n t i).lo := fun i hi => by
    unfold extL
    by_cases e : i = n
    · rw [if_pos e]; omega
    · rw [if_neg e]; exact h.nt i (by omega)
  have hk3 : Kp (fun b => b = g) W w3 := (Kp.ofB hX).grown hgr (fun k hk _ => by injection hk with hk; exact hk.symm)
  have hk4 : Kp (fun b => b = g ∨ b = w.heap.size) W (w3.setCell ⟨w.heap.size, 0, none⟩ (.slice (some ⟨gg, 0, none⟩) (n + 1) cc)) := Kp.setCell (P := fun b => b = g ∨ b = w.heap.size) (hk3.mono fun _ _ h => Or.inl h) (p := ⟨w.heap.size, 0, none⟩) (show w.heap.size = g ∨ w.heap.size = w.heap.size from Or.inr rfl) _
  refine ⟨c3, z3, h.rs.imp fun _ hu => (far _ (by omega) (by omega) 0).trans hu, (farz _ (by omega) (by omega) 0).trans h.rf, set_same ⟨_, c3⟩, by rw [World.frozen?_setCell]; exact z3, h.rs.imp fun _ hu => by rw [far_block (by omega)]; exact (far _ (by omega) (by omega) 0).trans hu, by rw [World.frozen?_setCell]; exact (farz _ (by omega) (by omega) 0).trans h.rf, hVs.setB (fun q hq => by have := own_inj hq; omega) (fun i hi => by have := hT2 i hi; omega), h.rd.kp hk4 (fun b h1 h2 => by omega), h.kp.transN hk4 (fun i _ hi => Or.inr (by omega)), Nat.le_trans (show w.heap.size + 2 ≤ w3.heap.size by omega) (by simp [World.setCell]), hg3, hT2⟩
end
theorem own_apE {w : World} {base base' n : Nat} {v u : Value} {l : List Ent} {xs : List Value} (h : OwnE w base v l) (h' : w.ownsRow base' 46 2 u n xs) (q : Nat) (hq : v.ownBlock = some q) : u.ownBlock ≠ some q := fun e => by
  obtain ⟨_, h2⟩ := h
  obtain ⟨_, h3⟩ := h'
  rcases h2 with ⟨rfl, _⟩ | ⟨g, cap, cur, rfl, _, hh, _⟩
  · cases hq
  · rcases h3 with ⟨rfl, _⟩ | ⟨g', cap', cur', rfl, _, hh', _⟩
    · cases e
    · have e1 : g = q := by simpa [Value.ownBlock] using hq
      have e2 : g' = q := by simpa [Value.ownBlock] using e
      subst e1
      rw [e2, hh] at hh'
      injection hh' with hh'
      injection hh' with _ h5 _
      exact absurd h5 (by decide)
theorem slt_sets {w1 w2 : World} {p base n g c i : Nat} {G : Nat → Grp} {T : Nat → Lg} {a : Option Addr} {cp : Nat} {l : List Ent} (h : RowP w1 base (.slice (some ⟨g, 0, none⟩) n c) n G T) (hp : p < base) (hi : i < n) (hk : Kp (PvB p (.slice (T i).a (G i).sets.length (T i).c)) w1 w2) (ho : OwnE w2 (T i).lo (.slice a l.length cp) l) (hok : AllOk l) (R : Nat) (hRg : R ≠ g) (hT : ∀ j, j < n → (T j).hi ≤ R ∨ R < (T j).lo) (hRl : ∀ b, (Value.slice a l.length cp).ownBlock = some b → b ≠ R) (V : Value) :
    ∀ W2, KW base ((w2.setCell ⟨g, i * 2 + 1, none⟩ (.slice a l.length cp)).setCell ⟨R, 0, none⟩ V) W2 → SlT W2 (some ⟨g, 0, none⟩) n c (extP G i ⟨(G i).par, l⟩) := by
  intro W2 hW2
  have hgl := h.some_lt
  have hvi := h.q i hi
  have hrow : w2.ownsRow base 46 2 (.slice (some ⟨g, 0, none⟩) n c) n (encP G T n) := ownsRow_kp h.own hk (fun b hb hP => by
    have e := own_inj hb
    subst e
    rcases hP with hP | hP
    · omega
    · have := h.apart g rfl i hi
      have h1 := (World.ownsRow.lt hvi.ow g hP).1
      have h2 := hvi.oh g hP
      omega)
  obtain ⟨hn, hc, hcells⟩ : n ≤ c ∧ c ≤ maxLen ∧ ∀ j, j < n → w2.cell? ⟨g, j * 2, none⟩ = some (.int .i64 (G j).par) ∧ w2.cell? ⟨g, j * 2 + 1, none⟩ = some (.slice (T j).a (G j).sets.length (T j).c) := by
    rcases row_cells hrow with ⟨e, _⟩ | ⟨g', c', e, _, _, hn, hc, hx, _⟩
    · cases e
    · injection e with e1 _ e2
      injection e1 with e1
      injection e1 with e1
      subst e1 e2
      refine ⟨hn, hc, fun j hj => ?_⟩
      have hr : ∀ r, r < 2 → w2.cell? ⟨g, j * 2 + r, none⟩ = (gpL (G j) (T j))[r]? := fun r hr => by
        have := hx (j * 2 + r) (by omega)
        rw [Nat.zero_add] at this
        rw [this]
        exact encP_get G T n j r hj hr
      exact ⟨hr 0 (by decide), hr 1 (by decide)⟩
  have hne : ∀ b, (Value.slice a l.length cp).ownBlock = some b → b ≠ g := fun b hb e => by
    subst e
    exact own_apE ho hrow _ hb rfl
  have hs2 := hk.size
  have hszX : ((w2.setCell ⟨g, i * 2 + 1, none⟩ (.slice a l.length cp)).setCell ⟨R, 0, none⟩ V).heap.size = w2.heap.size := by simp [World.setCell]
  have hcW : ∀ o, W2.cell? ⟨g, o, none⟩ = ((w2.setCell ⟨g, i * 2 + 1, none⟩ (.slice a l.length cp)).setCell ⟨R, 0, none⟩ V).cell? ⟨g, o, none⟩ := fun o => World.cell?_of_block (a := ⟨g, o, none⟩) (hW2.2 g hgl.1 (by rw [hszX]; omega))
  refine ⟨hn, hc, Or.inr ⟨g, 0, rfl, Nat.lt_of_lt_of_le (show g < w2.heap.size by omega) (by rw [← hszX]; exact hW2.1), fun j hj => ?_⟩⟩
  rw [Nat.zero_add]
  obtain ⟨c0, c1⟩ := hcells j hj
  by_cases e : j = i
  · subst e
    obtain ⟨a', cp', e3, hsl⟩ := ho.sl hok.at
    injection e3 with e4 _ e5
    subst e4 e5
    have hx : extP G j ⟨(G j).par, l⟩ j = ⟨(G j).par, l⟩ := if_pos rfl
    rw [hx]
    refine ⟨a, cp, by rw [hcW, far_block (by omega), set_far (by omega)]; exact c0, by rw [hcW, far_block (by omega)]; exact set_same ⟨_, c1⟩, ?_⟩
    have ho2 : OwnE ((w2.setCell ⟨g, j * 2 + 1, none⟩ (.slice a l.length cp)).setCell ⟨R, 0, none⟩ V) (T j).lo (.slice a l.length cp) l := own_keptP ho fun b hb => (Below.heap_setCell _ _ _ _ (by exact hRl b hb)).trans (Below.heap_setCell _ _ _ _ (by exact hne b hb))
    have ho3 : OwnE W2 (T j).lo (.slice a l.length cp) l := own_keptP ho2 fun b hb => hW2.2 b (Nat.le_trans (h.low j hj) (World.ownsRow.lt ho2 b hb).1) (World.ownsRow.lt ho2 b hb).2
    obtain ⟨a', cp', e3, hsl2⟩ := ho3.sl hok.at
    injection e3 with e4 _ e5
    subst e4 e5
    exact hsl2
  · have hx : extP G i ⟨(G i).par, l⟩ j = G j := if_neg e
    rw [hx]
    refine ⟨(T j).a, (T j).c, by rw [hcW, far_block (by omega), set_far (by omega)]; exact c0, by rw [hcW, far_block (by omega), set_far (by omega)]; exact c1, ?_⟩
    refine (h.q j hj).sl.kept (by have := hW2.1; rw [hszX] at this; omega) (h.q j hj).iv fun b h1 h2 => ?_
    have hjT := hT j hj
    have hap := h.apart g rfl j hj
    refine (hW2.2 b (Nat.le_trans (h.low j hj) h1) (by rw [hszX]; have := (h.q j hj).hh.2; omega)).trans (((Below.heap_setCell _ _ _ _ (by show b ≠ R; omega)).trans (Below.heap_setCell _ _ _ _ (by show b ≠ g; omega))).trans (hk.block b (Nat.lt_of_lt_of_le h2 (h.q j hj).hh.2) (fun hP => ?_)))
    rcases hP with hP | hP
    · have := h.low j hj; omega
    · have q1 := (World.ownsRow.lt hvi.ow b hP).1
      have q2 := hvi.oh b hP
      rcases Nat.lt_trichotomy i j with q | q | q
      · have := h.ord i j q hj; omega
      · exact e q.symm
      · have := h.ord j i q hi; omega
set_option maxRecDepth 100000 in
set_option maxHeartbeats 4000000 in
theorem spoilSto (p base : Nat) {bs : Nat → Nat} {m q n vc : Nat} {va : Option Addr} {G : Nat → Grp} {T : Nat → Lg} (w : World) (h : RdF w p bs m q) (hp : p < base) (hb : base ≤ w.heap.size) (hr : RowP w base (.slice va n vc) n G T) (hn0 : 0 < n) (hn8 : n ≤ 8) (hl : ∀ j, j < n → (G j).sets.length ≤ 1000) :
    Calls Try.prog 37 #[.pointer (some ⟨p, 0, none⟩), .agg #[.slice va n vc]] w (SsPost p base w bs m (ssN n (nxB bs m q)) (ssG bs m n G (nxB bs m q) (nxQ m q)) (ssQ m (nxB bs m q) (nxQ m q))) := by
  obtain ⟨i0, hi0, hz0, hz1, hz2⟩ := info_parts Try.infoGroup
  obtain ⟨g, rfl⟩ : ∃ g, va = some ⟨g, 0, none⟩ := by
    rcases hr.cells with ⟨_, h0⟩ | ⟨g, _, e, _⟩
    · omega
    · injection e with e _ _; exact ⟨g, e⟩
  have hk256 := h.nx
  obtain ⟨wa, hwa⟩ : ∃ wa, wa = (w.alloc (.cells #[.slice (some ⟨g, 0, none⟩) n vc] 25)).alloc (.cells #[.slice none 0 0] 25) := ⟨_, rfl⟩
  have hsa : wa.heap.size = w.heap.size + 2 := by rw [hwa]; simp
  have hba : Below w.heap.size w wa := by rw [hwa]; exact ((Below.refl _ _).alloc (Nat.le_refl _) _).alloc (by simp) _
  have hgl := hr.some_lt
  have hpw := h.lt
  go_enter Try.func37, Try.ntmps37
  go_wp2_with fail
  rw [← hwa]
  refine (nextF p _ (h.below hba)).mono ?_
  rintro e w1 ⟨rfl, hd1⟩
  have HI : Hid (SbI p base w bs m (nxQ m q) w1 n G T g vc) := by
    have hne : ∀ b, w.heap.size ≤ b → some b ≠ some p := fun b h1 e => by injection e with e; omega
    have hs1 := hd1.size
    refine ⟨(hd1.2.cell_far ⟨w.heap.size, 0, none⟩ (by show w.heap.size < _; omega) (hne _ (Nat.le_refl _))).trans ?_, (hd1.2.frozen_far ⟨w.heap.size, 0, none⟩ (by show w.heap.size < _; omega) (hne _ (Nat.le_refl _))).trans ?_, ⟨.slice none 0 0, (hd1.2.cell_far ⟨w.heap.size + 1, 0, none⟩ (by show w.heap.size + 1 < _; omega) (hne _ (by show _ ≤ w.heap.size + 1; omega))).trans ?_⟩, (hd1.2.frozen_far ⟨w.heap.size + 1, 0, none⟩ (by show w.heap.size + 1 < _; omega) (hne _ (by show _ ≤ w.heap.size + 1; omega))).trans ?_, (hr.below hba).dwf hd1 hp, hd1.1, ?_, by omega, Or.inl hgl.2, fun i hi => Or.inl (hr.q i hi).hh.2⟩
    · rw [hwa, World.cell?_alloc_past _ _ _ (by simp)]
      exact World.cell?_alloc_at _ _ _ _ rfl
    · rw [hwa, World.frozen?_alloc_past _ _ _ (by simp)]
      exact World.frozen?_alloc_at _ _ _ _ rfl
    · rw [hwa]; exact World.cell?_alloc_at _ _ _ _ (by simp)
    · rw [hwa]; exact World.frozen?_alloc_at _ _ _ _ (by simp)
    · exact (Kp.ofB hba).transN (⟨hd1.2.os, hd1.2.tape, hd1.2.output, hd1.2.size, fun k hk hP => hd1.2.block k hk (fun e => hP (Or.inl (by injection e)))⟩ : Kp (fun b => b = p ∨ base ≤ b) wa w1) (fun _ _ h => h)
  clear hd1 hwa hsa hba h hr
  generalize nxB bs m q = k at *
  generalize nxQ m q = q1 at *
  have him : k / 4 % n < n := Nat.mod_lt _ hn0
  obtain ⟨i, hi⟩ : ∃ i, i = k / 4 % n := ⟨_, rfl⟩
  have HG : Hid (ssG bs m n G k q1 = if k % 4 = 0 then extP G i ⟨((k / 16 : Nat) : Int) - 3, (G i).sets⟩
      else if k % 4 = 1 then extP G i ⟨(G i).par, spL (G i).sets (nxB bs m q1)⟩
      else if k % 4 = 2 then addG G n
      else extP G n ⟨(i : Int), [⟨⟨#[116, 111, 112, 105, 99]⟩, ⟨#[]⟩, ⟨#[]⟩⟩]⟩) := by rw [hi]; rfl
  have hqi : (k : Int) / 4 % (n : Int) = (i : Int) := by rw [hi]; simp
  rw [← hi] at him
  clear hi
  have hnz : ¬ (n : Int) = 0 := by omega
  have hiz : (i : Int) < (n : Int) := by omega
  obtain ⟨x0, f0, ⟨u1, x1⟩, f1, hrow, -, -, hsz, hng, -⟩ := HI.out
  obtain ⟨y0, y1, yf⟩ : w1.cell? ⟨g, i * 2, none⟩ = some (.int .i64 (G i).par) ∧ w1.cell? ⟨g, i * 2 + 1, none⟩ = some (.slice (T i).a (G i).sets.length (T i).c) ∧ ∀ o, w1.frozen? ⟨g, o, none⟩ = false := by
    rcases hrow.cells with ⟨e, _⟩ | ⟨g', c', e, _, _, _, _, hx, hf⟩
    · cases e
    · injection e with e1 _ e2
      injection e1 with e1
      injection e1 with e1
      subst e1
      exact ⟨(hx i him).1, (hx i him).2, hf⟩
  clear hrow
  by_cases hk0 : k % 4 = 0
  · have hkz : (k : Int) % 4 = 0 := by omega
    have yf0 := yf (i * 2)
    have HP : Hid (SsPost p base w bs m (ssN n k) (ssG bs m n G k q1) (ssQ m k q1) (.returned (.agg #[.slice (some ⟨g, 0, none⟩) n vc])) ((w1.setCell ⟨g, i * 2, none⟩ (.int .i64 ((k : Int) / 16 - 3))).setCell ⟨w.heap.size + 1, 0, none⟩ (.slice (some ⟨g, 0, none⟩) n vc))) := by
      have e1 : ssN n k = n := by unfold ssN; rw [if_neg (by omega), if_neg (by omega)]
      have e2 : ssQ m k q1 = q1 := by unfold ssQ; rw [if_neg (by omega)]
      rw [HG.out, if_pos hk0, e1, e2]
      have h9 := HI.out
      have hk9 : Kp (fun b => b = g) w1 (w1.setCell ⟨g, i * 2, none⟩ (.int .i64 ((k : Int) / 16 - 3))) := Kp.setCell (P := fun b => b = g) (Kp.refl _ _) (p := ⟨g, i * 2, none⟩) (show g = g from rfl) _
      have e3 : ((k / 16 : Nat) : Int) - 3 = (k : Int) / 16 - 3 := by omega
      rw [e3]
      exact SbI.fin (T := T) ⟨by rw [far_block (by omega)]; exact h9.bx, by rw [World.frozen?_setCell]; exact h9.fz, h9.rs.imp fun _ hu => by rw [far_block (by omega)]; exact hu, by rw [World.frozen?_setCell]; exact h9.rf, h9.row.putP him _, h9.rd.kp hk9 (fun b h1 h2 => by have := hgl.1; omega), h9.kp.transN hk9 (fun b _ hb => Or.inr (by have := hgl.1; omega)), by simpa [World.setCell] using h9.sz, h9.ng, h9.nt⟩ hp hb
    clear HI HG yf hl
    go_wp2
    exact bodyPost_ret (v := .agg #[.slice (some ⟨g, 0, none⟩) n vc]) (by simp [results, Try.results37, go_sem, x1]) rfl HP.out
  have hkz : ¬ (k : Int) % 4 = 0 := by omega
  by_cases hk1 : k % 4 = 1
  · have hkz1 : (k : Int) % 4 = 1 := by omega
    have yf1 := yf (i * 2 + 1)
    obtain ⟨V, hV⟩ : ∃ V, V = Value.slice (T i).a (G i).sets.length (T i).c := ⟨_, rfl⟩
    have hqi2 := HI.out.row.q i him
    have hlo2 := HI.out.row.low i him
    have HSp : Hid (∀ W, Below w1.heap.size w1 W → Calls Try.prog 39 #[.pointer (some ⟨p, 0, none⟩), .slice (T i).a (G i).sets.length (T i).c] W fun e w2 => ∃ a2 c2 n2, e = .returned (.slice a2 n2 c2) ∧ (w2.cell? ⟨w.heap.size, 0, none⟩ = some (.slice (some ⟨g, 0, none⟩) n vc) ∧ w2.cell? ⟨w.heap.size + 1, 0, none⟩ = some u1 ∧ w2.frozen? ⟨w.heap.size + 1, 0, none⟩ = false ∧ (∃ u, w2.cell? ⟨g, i * 2 + 1, none⟩ = some u) ∧ w2.frozen? ⟨g, i * 2 + 1, none⟩ = false) ∧ Hid (SsPost p base w bs m (ssN n k) (ssG bs m n G k q1) (ssQ m k q1) (.returned (.agg #[.slice (some ⟨g, 0, none⟩) n vc])) ((w2.setCell ⟨g, i * 2 + 1, none⟩ (.slice a2 n2 c2)).setCell ⟨w.heap.size + 1, 0, none⟩ (.slice (some ⟨g, 0, none⟩) n vc)))) := fun W hW => by
      refine (spoilL p (T i).lo W (HI.out.rd.below hW) (by omega) (Nat.le_trans hqi2.hh.1 (Nat.le_trans hqi2.hh.2 hW.size)) (hqi2.below hW).ow hqi2.sl.ok (hl i him)).mono ?_
      rintro e w2 ⟨a2, c2, rfl, ho2, hbk2, hr2, hk2⟩
      have hk12 : Kp (PvB p (.slice (T i).a (G i).sets.length (T i).c)) w1 w2 := (Kp.ofB hW).transN hk2 (fun _ _ h => h)
      have nP : ∀ b, b < w1.heap.size → b ≠ p → (b < (T i).lo ∨ (T i).hi ≤ b) → ¬ PvB p (.slice (T i).a (G i).sets.length (T i).c) b := fun b h1 h2 h3 hP => by
        rcases hP with hP | hP
        · exact h2 hP
        · have q1 := (World.ownsRow.lt hqi2.ow b hP).1
          have q2 := hqi2.oh b hP
          omega
      have hnt := HI.out.nt i him
      have hap := HI.out.row.apart g rfl i him
      have n0 := nP w.heap.size (by omega) (by omega) (by omega)
      have n1 := nP (w.heap.size + 1) (by omega) (by omega) (by omega)
      have ng := nP g (by have := HI.out.row.some_lt; omega) (by have := hgl.1; omega) hap
      refine ⟨a2, c2, _, rfl, ⟨(hk12.cell (p := ⟨w.heap.size, 0, none⟩) (by show w.heap.size < _; omega) n0).trans x0, (hk12.cell (p := ⟨w.heap.size + 1, 0, none⟩) (by show w.heap.size + 1 < _; omega) n1).trans x1, (hk12.frozen (p := ⟨w.heap.size + 1, 0, none⟩) (by show w.heap.size + 1 < _; omega) n1).trans f1, ⟨_, (hk12.cell (p := ⟨g, i * 2 + 1, none⟩) (by show g < _; have := HI.out.row.some_lt; omega) ng).trans y1⟩, (hk12.frozen (p := ⟨g, i * 2 + 1, none⟩) (by show g < _; have := HI.out.row.some_lt; omega) ng).trans yf1⟩, ?_⟩
      have e1 : ssN n k = n := by unfold ssN; rw [if_neg (by omega), if_neg (by omega)]
      have e2 : ssQ m k q1 = nxQ m q1 := by unfold ssQ; rw [if_pos hk1]
      rw [HG.out, if_neg hk0, if_pos hk1, e1, e2]
      have hS := slt_sets HI.out.row hp him hk12 ho2 (spL_ok _ hqi2.sl.ok) (w.heap.size + 1) (by omega) (fun j hj => by have := HI.out.nt j hj; omega) (fun b hb e => by
        rcases hbk2 b hb with h5 | h5
        · exact n1 (Or.inr (e ▸ h5))
        · have := hW.size; omega) (.slice (some ⟨g, 0, none⟩) n vc)
      have hkS : Kp (fun b => b = g ∨ b = w.heap.size + 1) w2 ((w2.setCell ⟨g, i * 2 + 1, none⟩ (.slice a2 (spL (G i).sets (nxB bs m q1)).length c2)).setCell ⟨w.heap.size + 1, 0, none⟩ (.slice (some ⟨g, 0, none⟩) n vc)) := Kp.setCell (P := fun b => b = g ∨ b = w.heap.size + 1) (Kp.setCell (P := fun b => b = g ∨ b = w.heap.size + 1) (Kp.refl _ _) (p := ⟨g, i * 2 + 1, none⟩) (show g = g ∨ g = w.heap.size + 1 from Or.inl rfl) _) (p := ⟨w.heap.size + 1, 0, none⟩) (show w.heap.size + 1 = g ∨ w.heap.size + 1 = w.heap.size + 1 from Or.inr rfl) _
      refine ⟨_, _, rfl, hS, hr2.kp hkS (fun b h1 h2 => by have := hgl.1; omega), (HI.out.kp.transN hk12 (fun b _ hP => ?_)).transN hkS (fun b _ hb => Or.inr (by have := hgl.1; omega))⟩
      rcases hP with hP | hP
      · exact Or.inl hP
      · exact Or.inr (by have := (World.ownsRow.lt hqi2.ow b hP).1; omega)
    clear HI HG yf hl hqi2 hV V
    have hrf : Below w1.heap.size w1 w1 := Below.refl _ _
    have HS : Hid (∀ W, Below w1.heap.size w1 W → W.cell? ⟨w.heap.size, 0, none⟩ = some (.slice (some ⟨g, 0, none⟩) n vc)) := fun W hW => (hW.cell (by show w.heap.size < _; omega)).trans x0
    generalize (G i).sets.length = gl at *
    go_upto_region 7 with fail
    refine wp_region_held_drew (S := fun X => X.cell? ⟨w.heap.size, 0, none⟩ = some (.slice (some ⟨g, 0, none⟩) n vc)) (by kernel_rfl) ?_ (fun hHeld => ?_)
    · (try dsimp only); exact HS.out _ (by with_reducible first | exact hrf | exact hrf.drew | exact hrf.drew.drew | exact hrf.drew.drew.drew)
    refine wpAnyH_take (i := 0) (v := ?vm1) rfl (by kernel_rfl) (by kernel_rfl) (by kernel_rfl) (fun _ _ _ h => h) (Or.inl ⟨by rfl, ?hm1⟩) (by assumption) ?_
    case hm1 => (intro w hSw; (try dsimp only at hSw); go_simp; try (with_reducible rfl))
    simp only [Act.put, List.getElem_toArray, List.getElem_cons_zero, List.setIfInBounds_toArray, List.set_cons_zero, List.set_cons_succ]
    refine wpAnyH_take (i := 1) (v := ?vm2) rfl (by kernel_rfl) (by kernel_rfl) (by kernel_rfl) (fun _ _ _ h => h) (Or.inl ⟨by rfl, ?hm2⟩) (by assumption) ?_
    case hm2 => (intro w hSw; (try dsimp only at hSw); go_simp; try (with_reducible rfl))
    simp only [Act.put, List.getElem_toArray, List.getElem_cons_zero, List.getElem_cons_succ, List.setIfInBounds_toArray, List.set_cons_zero, List.set_cons_succ]
    refine wpAnyH_take (i := 2) (v := ?vm3) rfl (by kernel_rfl) (by kernel_rfl) (by kernel_rfl) (fun _ _ _ h => h) (Or.inl ⟨by rfl, ?hm3⟩) (by assumption) ?_
    case hm3 => (intro w hSw; (try dsimp only at hSw); go_simp; try (with_reducible rfl))
    simp only [Act.put, List.getElem_toArray, List.getElem_cons_zero, List.getElem_cons_succ, List.setIfInBounds_toArray, List.set_cons_zero, List.set_cons_succ]
    refine wpAnyH_take (i := 3) (v := ?vm4) rfl (by kernel_rfl) (by kernel_rfl) (by kernel_rfl) (fun _ _ _ h => h) (Or.inl ⟨by rfl, ?hm4⟩) (by assumption) ?_
    case hm4 => (intro w hSw; (try dsimp only at hSw); go_simp; try (with_reducible rfl))
    simp only [Act.put, List.getElem_toArray, List.getElem_cons_zero, List.getElem_cons_succ, List.setIfInBounds_toArray, List.set_cons_zero, List.set_cons_succ]
    refine wpAnyH_take (i := 4) (v := ?vm5) rfl (by kernel_rfl) (by kernel_rfl) (by kernel_rfl) (fun _ _ _ h => h) (Or.inl ⟨by rfl, ?hm5⟩) (by assumption) ?_
    case hm5 => (intro w hSw; (try dsimp only at hSw); go_simp; try (with_reducible rfl))
    simp only [Act.put, List.getElem_toArray, List.getElem_cons_zero, List.getElem_cons_succ, List.setIfInBounds_toArray, List.set_cons_zero, List.set_cons_succ]
    refine wpAnyH_take (i := 5) (v := ?vm6) rfl (by kernel_rfl) (by kernel_rfl) (by kernel_rfl) (fun _ _ _ h => h) (Or.inl ⟨by rfl, ?hm6⟩) (by assumption) ?_
    case hm6 => (intro w hSw; (try dsimp only at hSw); go_simp; try (with_reducible rfl))
    simp only [Act.put, List.getElem_toArray, List.getElem_cons_zero, List.getElem_cons_succ, List.setIfInBounds_toArray, List.set_cons_zero, List.set_cons_succ]
    refine wpAnyH_take (i := 6) (v := ?vm7) rfl (by kernel_rfl) (by kernel_rfl) (by kernel_rfl) (fun _ _ _ h => h) (Or.inl ⟨by rfl, ?hm7⟩) (by assumption) ?_
    case hm7 => (intro w hSw; (try dsimp only at hSw); go_simp; try (with_reducible rfl))
    simp only [Act.put, List.getElem_toArray, List.getElem_cons_zero, List.getElem_cons_succ, List.setIfInBounds_toArray, List.set_cons_zero, List.set_cons_succ]
    refine wpAnyH_take (i := 7) (v := ?vm8) rfl (by kernel_rfl) (by kernel_rfl) (by kernel_rfl) (fun _ _ _ h => h) (Or.inl ⟨by rfl, ?hm8⟩) (by assumption) ?_
    case hm8 => (intro w hSw; (try dsimp only at hSw); go_simp; try (with_reducible rfl))
    simp only [Act.put, List.getElem_toArray, List.getElem_cons_zero, List.getElem_cons_succ, List.setIfInBounds_toArray, List.set_cons_zero, List.set_cons_succ]
    refine wpAnyH_take (i := 8) (v := ?vm9) rfl (by kernel_rfl) (by kernel_rfl) (by kernel_rfl) (fun _ _ _ h => h) (Or.inl ⟨by rfl, ?hm9⟩) (by assumption) ?_
    case hm9 => (intro w hSw; (try dsimp only at hSw); go_simp; try (with_reducible rfl))
    simp only [Act.put, List.getElem_toArray, List.getElem_cons_zero, List.getElem_cons_succ, List.setIfInBounds_toArray, List.set_cons_zero, List.set_cons_succ]
    refine wpAnyH_ready (rs := [9]) (by kernel_rfl) (by simp) ?_
    refine AllReadyH.cons rfl (fun K hK => ?_) AllReadyH.nil
    go_simp
    refine hK.out _ _ ?_ (fun hHeld => ?_)
    · (try dsimp only); exact HS.out _ (by with_reducible first | exact hrf | exact hrf.drew | exact hrf.drew.drew | exact hrf.drew.drew.drew)
    clear hK K
    try simp only [Act.put, List.getElem_toArray, List.getElem_cons_zero, List.getElem_cons_succ, List.setIfInBounds_toArray, List.set_cons_zero, List.set_cons_succ]
    refine wpAnyH_ready (rs := [10]) (by kernel_rfl) (by simp) ?_
    refine AllReadyH.cons rfl (fun K hK => ?_) AllReadyH.nil
    go_simp
    go_at_call 39
    refine (HSp.out _ (by with_reducible first | exact hrf | exact hrf.drew | exact hrf.drew.drew | exact hrf.drew.drew.drew)).mono ?_
    rintro e w2 ⟨a2, c2, n2, rfl, ⟨z0, z1, zf1, ⟨u2, z2⟩, zf2⟩, HP⟩
    dsimp only
    refine hK.out _ _ ?_ (fun hHeld => ?_)
    · (try dsimp only); exact z0
    clear hK K
    try simp only [Act.put, List.getElem_toArray, List.getElem_cons_zero, List.getElem_cons_succ, List.setIfInBounds_toArray, List.set_cons_zero, List.set_cons_succ]
    refine wpAnyH_take (i := 11) (v := ?vm10) rfl (by kernel_rfl) (by kernel_rfl) (by kernel_rfl) (fun _ _ _ h => h) (Or.inl ⟨by rfl, ?hm10⟩) (by assumption) ?_
    case hm10 => (intro w hSw; (try dsimp only at hSw); go_simp; try (with_reducible rfl))
    simp only [Act.put, List.getElem_toArray, List.getElem_cons_zero, List.getElem_cons_succ, List.setIfInBounds_toArray, List.set_cons_zero, List.set_cons_succ]
    refine wpAnyH_take (i := 12) (v := ?vm11) rfl (by kernel_rfl) (by kernel_rfl) (by kernel_rfl) (fun _ _ _ h => h) (Or.inl ⟨by rfl, ?hm11⟩) (by assumption) ?_
    case hm11 => (intro w hSw; (try dsimp only at hSw); go_simp; try (with_reducible rfl))
    simp only [Act.put, List.getElem_toArray, List.getElem_cons_zero, List.getElem_cons_succ, List.setIfInBounds_toArray, List.set_cons_zero, List.set_cons_succ]
    refine wpAnyH_ready (rs := [13]) (by kernel_rfl) (by simp) ?_
    refine AllReadyH.cons rfl (fun K hK => ?_) AllReadyH.nil
    go_simp
    (try dsimp only)
    refine hK.out _ _ ?_ (fun hHeld => ?_)
    · (try dsimp only); (rw [far_block (by omega)]; exact z0)
    clear hK K
    try simp only [Act.put, List.getElem_toArray, List.getElem_cons_zero, List.getElem_cons_succ, List.setIfInBounds_toArray, List.set_cons_zero, List.set_cons_succ]
    refine wpAnyH_done (by kernel_rfl) ?_ _
    go_wp2
    exact bodyPost_ret (v := .agg #[.slice (some ⟨g, 0, none⟩) n vc]) (by simp [results, Try.results37, go_sem, z1]) rfl HP.out
  have hkz1 : ¬ (k : Int) % 4 = 1 := by omega
  by_cases hk2 : k % 4 = 2
  · have hkz2 : (k : Int) % 4 = 2 := by omega
    have hM2 : k / 16 % 2 < 2 := Nat.mod_lt _ (by decide)
    have HI0 : Hid (SbI p base w bs m q1 w1 (n + 0) (addG G n) T g vc) := ⟨HI.out.bx, HI.out.fz, HI.out.rs, HI.out.rf, HI.out.row.congG fun j hj => by unfold addG; rw [if_pos (by omega)], HI.out.rd, HI.out.kp, HI.out.sz, HI.out.ng, HI.out.nt⟩
    have HE : Hid (ssN n k = n + (4 + k / 16 % 2) ∧ ssG bs m n G k q1 = addG G n ∧ ssQ m k q1 = q1) := ⟨by unfold ssN; rw [if_pos hk2], by rw [HG.out, if_neg hk0, if_neg hk1, if_pos hk2], by unfold ssQ; rw [if_neg (by omega)]⟩
    have HA : Hid (∀ j, addG G n (n + j) = ⟨((n + j : Nat) : Int) - 1, []⟩) := fun j => by unfold addG; rw [if_neg (by omega)]
    clear HI HG yf y0 y1 hl
    go_wp2_with fail
    simp only [hqi, hkz2]
    clear x0 f0 x1 f1 hng
    go_loopw [8] (fun jv wr => ∃ (j : Nat) (T : Nat → Lg) (g c : Nat), j ≤ 4 + k / 16 % 2 ∧ jv = .int .i64 (j : Int) ∧ Hid (SbI p base w bs m q1 wr (n + j) (addG G n) T g c)) (fun j _ => 4 + k / 16 % 2 - (intOf j).toNat)
    case atStart => exact ⟨0, T, g, vc, Nat.zero_le _, rfl, HI0⟩
    case round =>
      clear HI0 hgl
      obtain ⟨j, T, g, c, hj, rfl, HI⟩ := hrel
      obtain ⟨x0, f0, ⟨u1, x1⟩, f1, hrow, -, -, hsz, hng, -⟩ := HI.out
      by_cases hjl : j < 4 + k / 16 % 2
      · have hjz : (j : Int) < 4 + (k : Int) / 16 % 2 := by omega
        have hAj := HA.out j
        have hJ : Hid (n + (j + 1) = n + j + 1) := rfl
        obtain ⟨J, hJd⟩ : ∃ J, J = n + j := ⟨_, rfl⟩
        rw [← hJd] at hAj x0 hrow HI
        have hJ8 : J ≤ 20 := by omega
        have HJ : Hid (J + 1 = n + (j + 1)) := by unfold Hid; omega
        clear hJd hJ
        obtain ⟨X1, hX1⟩ : ∃ X1, X1 = wr.alloc (.cells #[] 38) := ⟨_, rfl⟩
        have hs1 : X1.heap.size = wr.heap.size + 1 := by rw [hX1]; simp
        have hb1 : Below wr.heap.size wr X1 := by rw [hX1]; exact (Below.refl _ _).alloc (Nat.le_refl _) _
        have hq1 : QP X1 ⟨(J : Int) - 1, []⟩ ⟨some ⟨wr.heap.size, 0, none⟩, 0, wr.heap.size, wr.heap.size + 1⟩ := by
          have h1 : OwnE X1 wr.heap.size (.slice (some ⟨wr.heap.size, 0, none⟩) 0 0) [] := by rw [hX1]; exact newE wr wr (Nat.le_refl _)
          obtain ⟨a', c', e, h2⟩ := h1.qp (fun x hx => by cases hx) ((J : Int) - 1) (by omega)
          injection e with e1 _ e2
          subst e1 e2
          rw [hs1] at h2
          exact h2
        have hown1 : X1.ownsRow base 46 2 (.slice (some ⟨g, 0, none⟩) J c) J (encP (addG G n) T J) := ownsRow_below hrow.own hb1
        have HF : Hid (∀ (gg cc : Nat) (w3 : World), w3.ownsRow base 46 2 (.slice (some ⟨gg, 0, none⟩) (J + 1) cc) (J + 1) (encP (addG G n) T J ++ gpL ⟨(J : Int) - 1, []⟩ ⟨some ⟨wr.heap.size, 0, none⟩, 0, wr.heap.size, wr.heap.size + 1⟩) → (X1.alloc (.cells #[.int .i64 ((J : Int) - 1), .slice (some ⟨wr.heap.size, 0, none⟩) 0 0] 46)).grownBy w3 (some g) → (some g = some gg ∨ gg = wr.heap.size + 1 + 1) →
            w3.cell? ⟨w.heap.size, 0, none⟩ = some (.slice (some ⟨g, 0, none⟩) J c) ∧ w3.frozen? ⟨w.heap.size, 0, none⟩ = false ∧ (∃ u, w3.cell? ⟨w.heap.size + 1, 0, none⟩ = some u) ∧ w3.frozen? ⟨w.heap.size + 1, 0, none⟩ = false ∧ Hid (∃ T, SbI p base w bs m q1 (w3.setCell ⟨w.heap.size, 0, none⟩ (.slice (some ⟨gg, 0, none⟩) (J + 1) cc)) (n + (j + 1)) (addG G n) T gg cc)) := fun gg cc w3 h1 h2 h3 => by
          have hX : Below wr.heap.size wr (X1.alloc (.cells #[.int .i64 ((J : Int) - 1), .slice (some ⟨wr.heap.size, 0, none⟩) 0 0] 46)) := hb1.alloc hb1.size _
          obtain ⟨p1, p2, p3, p4, p5⟩ := HI.out.push hp hb hX (t := ⟨some ⟨wr.heap.size, 0, none⟩, 0, wr.heap.size, wr.heap.size + 1⟩) (by rw [hAj]; exact hq1.below ((Below.refl _ _).alloc (Nat.le_refl _) _)) (Nat.le_refl _) (by rw [hAj]; exact h1) h2 (h3.imp id fun e => by rw [e, World.size_alloc, hs1]; exact Nat.le_refl _)
          rw [← HJ.out]
          exact ⟨p1, p2, p3, p4, _, p5⟩
        have Hgc : ∀ (jj : Nat) (u : Value), (gpL ⟨(J : Int) - 1, []⟩ ⟨some ⟨wr.heap.size, 0, none⟩, 0, wr.heap.size, wr.heap.size + 1⟩)[jj]? = some u → (X1.alloc (.cells #[.int .i64 ((J : Int) - 1), .slice (some ⟨wr.heap.size, 0, none⟩) 0 0] 46)).cell? ((⟨wr.heap.size + 1, 0, none⟩ : Addr).add jj) = some u := fun jj u hj => by
          have := gpL_cells X1 ⟨(J : Int) - 1, []⟩ ⟨some ⟨wr.heap.size, 0, none⟩, 0, wr.heap.size, wr.heap.size + 1⟩ 46 jj u hj
          rw [hs1] at this
          exact this
        subst hX1
        have hm1 : J + 1 ≤ maxLen := by unfold maxLen; omega
        have hm2 : (J + 1) * 32 ≤ 140737488355328 := by omega
        have hm3 : ∀ o, base ≤ ((wr.alloc (.cells #[] 38)).alloc o).heap.size := fun o => by simp; omega
        clear hq1 hb1 hs1 HI hAj hrow
        go_wp2_with (at_builtin; refine wpList_append_lies _ rfl _ _ 23 rfl base 46 i0 (.agg #[.int .i64 0, .slice none 0 0]) 2 32 Try.underlying23 hi0 hz0 hz1 hz2 rfl (by decide) _ _ _ rfl (World.ownsRow.alloc hown1 _) ⟨wr.heap.size + 1, 0, none⟩ 1 1 (gpL ⟨(J : Int) - 1, []⟩ ⟨some ⟨wr.heap.size, 0, none⟩, 0, wr.heap.size, wr.heap.size + 1⟩) rfl rfl Hgc (gpL_one _ _) (by decide) hm1 hm2 (hm3 _) (wr.heap.size + 1 + 1) (by simp) ?_; intro gg cc w3 hown3 hgrow3 hat3 _; obtain ⟨d0, df0, ⟨u3, d1⟩, df1, HS3⟩ := HF.out gg cc w3 hown3 hgrow3 hat3)
        clear HF Hgc hown1 hown3 hgrow3 hat3 x0 f0 x1 f1
        obtain ⟨T3, HS3'⟩ := HS3.out
        have HS4 : Hid (SbI p base w bs m q1 (w3.setCell ⟨w.heap.size, 0, none⟩ (.slice (some ⟨gg, 0, none⟩) (J + 1) cc)) (n + (j + 1)) (addG G n) T3 gg cc) := HS3'
        clear HS3 HS3'
        go_wp2
        go_roundw
        case rel => exact ⟨j + 1, T3, gg, cc, by omega, by go_num, HS4⟩
        case measure => simp [intOf]; omega
      · have hjz : ¬ (j : Int) < 4 + (k : Int) / 16 % 2 := by omega
        have hjM : j = 4 + k / 16 % 2 := by omega
        have HP : Hid (SsPost p base w bs m (ssN n k) (ssG bs m n G k q1) (ssQ m k q1) (.returned (.agg #[.slice (some ⟨g, 0, none⟩) (n + j) c])) (wr.setCell ⟨w.heap.size + 1, 0, none⟩ (.slice (some ⟨g, 0, none⟩) (n + j) c))) := by
          rw [HE.out.1, HE.out.2.1, HE.out.2.2, ← hjM]
          exact HI.out.fin hp hb
        clear HI hrow HE hjM
        go_wp2
        exact bodyPost_ret (v := .agg #[.slice (some ⟨g, 0, none⟩) (n + j) c]) (by simp [results, Try.results37, go_sem, x1]) rfl HP.out
  · have hkz2 : ¬ (k : Int) % 4 = 2 := by omega
    obtain ⟨te, hte⟩ : ∃ te : Ent, te = ⟨⟨#[116, 111, 112, 105, 99]⟩, ⟨#[]⟩, ⟨#[]⟩⟩ := ⟨_, rfl⟩
    obtain ⟨G', hG'⟩ : ∃ G', G' = extP G n ⟨(i : Int), [te]⟩ := ⟨_, rfl⟩
    have HE : Hid (ssN n k = n + 1 ∧ ssG bs m n G k q1 = G' ∧ ssQ m k q1 = q1) := ⟨by unfold ssN; rw [if_neg hk2, if_pos (by omega)], by rw [HG.out, if_neg hk0, if_neg hk1, if_neg hk2, hG', hte], by unfold ssQ; rw [if_neg (by omega)]⟩
    have hGn : G' n = ⟨(i : Int), [te]⟩ := by rw [hG']; exact if_pos rfl
    have HI2 : Hid (SbI p base w bs m q1 w1 n G' T g vc) := ⟨HI.out.bx, HI.out.fz, HI.out.rs, HI.out.rf, HI.out.row.congG fun j hj => by rw [hG']; exact extP_lt j hj, HI.out.rd, HI.out.kp, HI.out.sz, HI.out.ng, HI.out.nt⟩
    clear HI HG hG' yf hl y0 y1
    obtain ⟨X1, hX1⟩ : ∃ X1, X1 = w1.alloc (.cells #[.string ⟨#[116, 111, 112, 105, 99]⟩, .string ⟨#[]⟩, .string ⟨#[]⟩] 38) := ⟨_, rfl⟩
    have hs1 : X1.heap.size = w1.heap.size + 1 := by rw [hX1]; simp
    have hb1 : Below w1.heap.size w1 X1 := by rw [hX1]; exact (Below.refl _ _).alloc (Nat.le_refl _) _
    have hq1 : QP X1 ⟨(i : Int), [te]⟩ ⟨some ⟨w1.heap.size, 0, none⟩, 1, w1.heap.size, w1.heap.size + 1⟩ := by
      have h1 : OwnE X1 w1.heap.size (.slice (some ⟨w1.heap.size, 0, none⟩) 1 1) [te] := by
        rw [hX1, hte]
        exact ⟨rfl, Or.inr ⟨w1.heap.size, 1, #[.string ⟨#[116, 111, 112, 105, 99]⟩, .string ⟨#[]⟩, .string ⟨#[]⟩], rfl, Nat.le_refl _, by show (w1.heap.push _)[w1.heap.size]? = _; simp, Nat.le_refl _, by decide, rfl, rfl⟩⟩
      obtain ⟨a', c', e, h2⟩ := h1.qp (fun x hx => by rw [List.mem_singleton.1 hx, hte]; exact ⟨by decide, by decide, by decide⟩) (i : Int) (by omega)
      injection e with e1 _ e2
      subst e1 e2
      rw [hs1] at h2
      exact h2
    have hown1 : X1.ownsRow base 46 2 (.slice (some ⟨g, 0, none⟩) n vc) n (encP G' T n) := ownsRow_below HI2.out.row.own hb1
    have HF : Hid (∀ (gg cc : Nat) (w3 : World), w3.ownsRow base 46 2 (.slice (some ⟨gg, 0, none⟩) (n + 1) cc) (n + 1) (encP G' T n ++ gpL ⟨(i : Int), [te]⟩ ⟨some ⟨w1.heap.size, 0, none⟩, 1, w1.heap.size, w1.heap.size + 1⟩) → (X1.alloc (.cells #[.int .i64 (i : Int), .slice (some ⟨w1.heap.size, 0, none⟩) 1 1] 46)).grownBy w3 (some g) → (some g = some gg ∨ gg = w1.heap.size + 1 + 1) →
        w3.cell? ⟨w.heap.size, 0, none⟩ = some (.slice (some ⟨g, 0, none⟩) n vc) ∧ w3.frozen? ⟨w.heap.size, 0, none⟩ = false ∧ (∃ u, w3.cell? ⟨w.heap.size + 1, 0, none⟩ = some u) ∧ w3.frozen? ⟨w.heap.size + 1, 0, none⟩ = false ∧ Hid (SsPost p base w bs m (ssN n k) (ssG bs m n G k q1) (ssQ m k q1) (.returned (.agg #[.slice (some ⟨gg, 0, none⟩) (n + 1) cc])) ((w3.setCell ⟨w.heap.size, 0, none⟩ (.slice (some ⟨gg, 0, none⟩) (n + 1) cc)).setCell ⟨w.heap.size + 1, 0, none⟩ (.slice (some ⟨gg, 0, none⟩) (n + 1) cc)))) := fun gg cc w3 h1 h2 h3 => by
      have hX : Below w1.heap.size w1 (X1.alloc (.cells #[.int .i64 (i : Int), .slice (some ⟨w1.heap.size, 0, none⟩) 1 1] 46)) := hb1.alloc hb1.size _
      obtain ⟨p1, p2, p3, p4, p5⟩ := HI2.out.push hp hb hX (t := ⟨some ⟨w1.heap.size, 0, none⟩, 1, w1.heap.size, w1.heap.size + 1⟩) (by rw [hGn]; exact hq1.below ((Below.refl _ _).alloc (Nat.le_refl _) _)) (Nat.le_refl _) (by rw [hGn]; exact h1) h2 (h3.imp id fun e => by rw [e, World.size_alloc, hs1]; exact Nat.le_refl _)
      rw [HE.out.1, HE.out.2.1, HE.out.2.2]
      exact ⟨p1, p2, p3, p4, p5.fin hp hb⟩
    have Hgc : ∀ (jj : Nat) (u : Value), (gpL ⟨(i : Int), [te]⟩ ⟨some ⟨w1.heap.size, 0, none⟩, 1, w1.heap.size, w1.heap.size + 1⟩)[jj]? = some u → (X1.alloc (.cells #[.int .i64 (i : Int), .slice (some ⟨w1.heap.size, 0, none⟩) 1 1] 46)).cell? ((⟨w1.heap.size + 1, 0, none⟩ : Addr).add jj) = some u := fun jj u hj => by
      have := gpL_cells X1 ⟨(i : Int), [te]⟩ ⟨some ⟨w1.heap.size, 0, none⟩, 1, w1.heap.size, w1.heap.size + 1⟩ 46 jj u hj
      rw [hs1] at this
      exact this
    subst hX1
    have hm1 : n + 1 ≤ maxLen := by unfold maxLen; omega
    have hm2 : (n + 1) * 32 ≤ 140737488355328 := by omega
    have hm3 : ∀ o, base ≤ ((w1.alloc (.cells #[.string ⟨#[116, 111, 112, 105, 99]⟩, .string ⟨#[]⟩, .string ⟨#[]⟩] 38)).alloc o).heap.size := fun o => by simp; omega
    clear hq1 hb1 hs1 HI2 hGn HE hte
    go_wp2_with (at_builtin; refine wpList_append_lies _ rfl _ _ 23 rfl base 46 i0 (.agg #[.int .i64 0, .slice none 0 0]) 2 32 Try.underlying23 hi0 hz0 hz1 hz2 rfl (by decide) _ _ _ rfl (World.ownsRow.alloc hown1 _) ⟨w1.heap.size + 1, 0, none⟩ 1 1 (gpL ⟨(i : Int), [te]⟩ ⟨some ⟨w1.heap.size, 0, none⟩, 1, w1.heap.size, w1.heap.size + 1⟩) rfl rfl Hgc (gpL_one _ _) (by decide) hm1 hm2 (hm3 _) (w1.heap.size + 1 + 1) (by simp) ?_; intro gg cc w3 hown3 hgrow3 hat3 _; obtain ⟨d0, df0, ⟨u3, d1⟩, df1, HS3⟩ := HF.out gg cc w3 hown3 hgrow3 hat3)
    clear HF Hgc hown1 hown3 hgrow3 hat3 x0 f0 x1 f1
    go_wp2
    exact bodyPost_ret (v := .agg #[.slice (some ⟨gg, 0, none⟩) (n + 1) cc]) (by simp [results, Try.results37, go_sem, d1]) rfl HS3.out
end Go.Proofs.Ytgocjlpbokhoeaa
