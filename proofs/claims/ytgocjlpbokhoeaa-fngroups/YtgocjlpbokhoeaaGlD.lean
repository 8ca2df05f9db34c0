import Derived.Test.YtgocjlpbokhoeaaGsD
import Derived.Test.YtgocjlpbokhoeaaDlPM
import Derived.Test.YtgocjlpbokhoeaaAnEM
import Derived.Test.YtgocjlpbokhoeaaOwP
import Derived.Test.YtgocjlpbokhoeaaDlLM
namespace Go.Proofs.Ytgocjlpbokhoeaa
open Go.RowKit
def qnx (m : Nat) : Nat → Nat → Nat
  | 0, q => q
  | k + 1, q => nxQ m (qnx m k q)
def dwL (bs : Nat → Nat) (m q : Nat) : Nat → List Ent
  | 0 => []
  | k + 1 => setL (dwL bs m q k) (slE (nxB bs m (qnx m k q))) false
def drL (bs : Nat → Nat) (m q : Nat) : List Ent := dwL bs m (nxQ m q) (nxB bs m q % 7)
def drLq (bs : Nat → Nat) (m q : Nat) : Nat := qnx m (nxB bs m q % 7) (nxQ m q)
theorem slE_ok {k : Nat} (hk : k < 256) : (slE k).ty.size ≤ maxLen ∧ (slE k).key.size ≤ maxLen ∧ (slE k).id.size ≤ maxLen := by
  refine ⟨?_, ?_, ?_⟩
  · show (tyS k).size ≤ maxLen
    unfold tyS
    repeat' split
    all_goals decide
  · show (if k % 4 = 1 ∨ k % 8 = 7 then usr (k / 8) else ⟨#[]⟩ : ByteArray).size ≤ maxLen
    split
    · rw [usr_size]; decide
    · decide
  · show (⟨#[36]⟩ ++ decB (k / 16) : ByteArray).size ≤ maxLen
    have := decB_size (k / 16) (by omega)
    rw [ByteArray.size_append]
    show 1 + _ ≤ maxLen
    unfold maxLen
    omega
theorem OwnE.dwf {p base : Nat} {w w' : World} {v : Value} {l : List Ent} {bs : Nat → Nat} {m q : Nat} (h : OwnE w base v l) (hd : DwF p w w' bs m q) (hp : p < base) : OwnE w' base v l :=
  own_keptP h fun g hg => hd.2.block g (World.ownsRow.lt h g hg).2 (fun e => by injection e with e; have := (World.ownsRow.lt h g hg).1; omega)
def LxPost (p : Nat) (w : World) (bs : Nat → Nat) (m : Nat) (l : List Ent) (q : Nat) (e : Ending) (w' : World) : Prop := ∃ a cap, e = .returned (.slice a l.length cap) ∧ OwnE w' w.heap.size (.slice a l.length cap) l ∧ AllOk l ∧ l.length ≤ 7 ∧ DwF p w w' bs m q
set_option maxRecDepth 100000 in
set_option maxHeartbeats 1000000 in
theorem drawL (p : Nat) {bs : Nat → Nat} {m q : Nat} (w : World) (h : RdF w p bs m q) : Calls Try.prog 38 #[.pointer (some ⟨p, 0, none⟩)] w (LxPost p w bs m (drL bs m q) (drLq bs m q)) := by
  have hp := h.lt
  have hn0 := newE w w (Nat.le_refl _)
  have hb0 : ∀ o, Below w.heap.size w (w.alloc o) := fun o => (Below.refl _ _).alloc (Nat.le_refl _) _
  go_enter Try.func38, Try.ntmps38
  go_wp2_with fail
  refine (nextF p _ (h.below (hb0 _))).mono ?_
  rintro e w1 ⟨rfl, hd1⟩
  have hdw : DwF p w w1 bs m (nxQ m q) := DwF.of_below h (hb0 _) hd1
  have ho1 := hn0.dwf hd1 hp
  obtain ⟨x, hx⟩ : ∃ x, x = nxB bs m q := ⟨_, rfl⟩
  have Hx : Hid (drL bs m q = dwL bs m (nxQ m q) (x % 7) ∧ drLq bs m q = qnx m (x % 7) (nxQ m q)) := by rw [hx]; exact ⟨rfl, rfl⟩
  rw [← hx]
  clear hx
  have hm : (x : Int) % 7 = ((x % 7 : Nat) : Int) := by omega
  have hq7 : x % 7 < 7 := Nat.mod_lt _ (by decide)
  clear hd1 hn0
  generalize x % 7 = n at *
  generalize nxQ m q = q0 at *
  go_wp2_with fail
  simp only [hm]
  clear hm
  go_loopw [3, 5] (fun v i wr => ∃ (k : Nat), k ≤ n ∧ i = .int .i64 (k : Int) ∧ Hid (OwnE wr w.heap.size v (dwL bs m q0 k) ∧ AllOk (dwL bs m q0 k) ∧ (dwL bs m q0 k).length ≤ k ∧ DwF p w wr bs m (qnx m k q0))) (fun _ i _ => n - (intOf i).toNat)
  case atStart => exact ⟨0, Nat.zero_le _, rfl, ho1, (fun x hx => by cases hx), Nat.le_refl _, hdw⟩
  case round =>
    clear ho1 hdw
    obtain ⟨k, hk, rfl, HR⟩ := hrel
    obtain ⟨ga, gc, e1, hsl⟩ := HR.out.1.sl HR.out.2.1.at
    subst e1
    by_cases hlt : k < n
    · go_wp2_with fail
      refine (slotF p _ HR.out.2.2.2.1).mono ?_
      rintro e w2 ⟨rfl, hd2⟩
      have hen := slE_ok HR.out.2.2.2.1.nx
      have HE : Hid (dwL bs m q0 (k + 1) = setL (dwL bs m q0 k) (slE (nxB bs m (qnx m k q0))) false) := rfl
      have ho2 := HR.out.1.dwf hd2 hp
      obtain ⟨ga', gc', e2, hsl2⟩ := ho2.sl HR.out.2.1.at
      injection e2 with e3 _ e4
      subst e3 e4
      have Hd : Hid (DwF p w w2 bs m (qnx m (k + 1) q0)) := HR.out.2.2.2.trans hd2
      have Hok : Hid (AllOk (dwL bs m q0 (k + 1)) ∧ (dwL bs m q0 (k + 1)).length ≤ k + 1) := by
        rw [HE.out]
        exact ⟨HR.out.2.1.set hen, by have := setL_len (dwL bs m q0 k) (slE (nxB bs m (qnx m k q0))) false; have := HR.out.2.2.1; omega⟩
      have hl := HR.out.2.2.1
      clear HR hsl ho2 hd2
      generalize slE (nxB bs m (qnx m k q0)) = en at *
      have HSt : Hid (Calls Try.prog 19 #[.slice ga (dwL bs m q0 k).length gc, entV en, .bool false] w2 fun e w' => ∃ v, e = .returned v ∧ Hid (OwnE w' w2.heap.size v (dwL bs m q0 (k + 1))) ∧ Below w2.heap.size w2 w') := (set_sl en false _ (by omega) hsl2).mono fun _ _ ⟨v, h1, h2, h3⟩ => ⟨v, h1, by rw [HE.out]; exact h2, h3⟩
      clear HE hsl2
      obtain ⟨l3, hl3⟩ : ∃ l3, l3 = dwL bs m q0 (k + 1) := ⟨_, rfl⟩
      have Hl3 : Hid (l3 = dwL bs m q0 (k + 1)) := hl3
      rw [← hl3] at HSt Hok
      clear hl3
      generalize (dwL bs m q0 k).length = ll at *
      go_wp2_with fail
      refine HSt.out.mono ?_
      rintro e w3 ⟨v3, rfl, ho3, hb3⟩
      obtain ⟨g3, c3, e3, _⟩ := ho3.out.sl Hok.out.1.at
      subst e3
      have HR3 : Hid (OwnE w3 w.heap.size (.slice g3 l3.length c3) l3 ∧ AllOk l3 ∧ l3.length ≤ k + 1 ∧ DwF p w w3 bs m (qnx m (k + 1) q0)) := ⟨ho3.out.base_le Hd.out.size, Hok.out.1, Hok.out.2, Hd.out.below hb3⟩
      clear ho3 Hd Hok HSt
      go_wp2
      exact ⟨⟨k + 1, by omega, by go_num, by rw [← Hl3.out]; exact HR3⟩, by simp [intOf]; omega⟩
    · have hkn : k = n := by omega
      subst hkn
      have HP : Hid (LxPost p w bs m (drL bs m q) (drLq bs m q) (.returned (.slice ga (dwL bs m q0 k).length gc)) wr) := by
        rw [Hx.out.1, Hx.out.2]
        exact ⟨ga, gc, rfl, HR.out.1, HR.out.2.1, by have := HR.out.2.2.1; omega, HR.out.2.2.2⟩
      clear HR hsl
      go_wp2
      go_ret
      exact HP.out
end Go.Proofs.Ytgocjlpbokhoeaa
