import Derived.Test.YtihacnhmiopalaaDoorDeWT
namespace Go.Proofs.YtihacnhmiopalaaDoor
open Go.RowKit
set_option maxRecDepth 100000 in
set_option maxHeartbeats 2000000 in
theorem deN2111 (p : Nat) {bs : Nat -> Nat} {m q k r3 : Nat} {km : Int} {dc ic us : ByteArray} {w : World} {Q : Exit -> Act -> World -> Prop} {u1 u20 u21 u22 u23 u24 u25 u26 u27 : Value} {b1 b2 B : Nat} (W : World) (_HP : ∀ (c : List PanicEntry) (a : Act) (d : Option Tmp) (v : Value) (x : World), Q (.panic c) (a.put d v) x -> Q (.panic c) a x) (_hk : k < 256) (_hr3 : r3 <= 2) (_hds : ¬ 9223372036854775807 < 1 + dc.size) (_Hdc : Hid (dc = decB k)) (_Hic : Hid (ic = ⟨#[36]⟩ ++ dc)) (_Hus : Hid (us = usr k)) (hI : Hid (DeI p w W bs m q (some b1) (some b2) (some B))) (HF : Hid (∀ b1 b2 B W', DeI p w W' bs m q (some b1) (some b2) (some B) -> Q .normal { tmps := #[.pointer (some ⟨p, 0, none⟩), u1, .pointer (some ⟨w.heap.size, 0, none⟩), .int .i64 (k : Int), .pointer (some ⟨B, 0, none⟩), .pointer (some ⟨p, 0, none⟩), .int .i64 (k : Int), .int .i64 (k : Int), .string dc, .string ic, .int .i64 (k : Int), .string us, .int .i64 (k : Int), .int .i64 km, .slice (some ⟨b1, 0, none⟩) 1 1, .slice (some ⟨b2, 0, none⟩) 2 2, .int .i64 (k : Int), .int .i64 (r3 : Int), .slice (some ⟨b2, 0, none⟩) r3 2, .agg #[.string ic, .string us, .string ⟨#[]⟩, .bool false, .string ⟨#[]⟩, .int .i64 km, .slice (some ⟨b1, 0, none⟩) 1 1, .slice (some ⟨b2, 0, none⟩) r3 2, .string ⟨#[]⟩, .slice none 0 0], u20, u21, u22, u23, u24, u25, u26, u27], defers := [] } (fil10 W' B (.string ic) (.string us) (.string ⟨#[]⟩) (.bool false) (.string ⟨#[]⟩) (.int .i64 km) (.slice (some ⟨b1, 0, none⟩) 1 1) (.slice (some ⟨b2, 0, none⟩) r3 2) (.string ⟨#[]⟩) (.slice none 0 0)))) :
  wpAnyH Tryd.prog .any (regO (tlN (Tryd.f12.body.getD .skip) 2)) Q (fun _ => True) 1 #[true, true, true, true, true, true, true, true, true, true, true, true, true, true, false] { tmps := #[.pointer (some ⟨p, 0, none⟩), u1, .pointer (some ⟨w.heap.size, 0, none⟩), .int .i64 (k : Int), .pointer (some ⟨B, 0, none⟩), .pointer (some ⟨p, 0, none⟩), .int .i64 (k : Int), .int .i64 (k : Int), .string dc, .string ic, .int .i64 (k : Int), .string us, .int .i64 (k : Int), .int .i64 km, .slice (some ⟨b1, 0, none⟩) 1 1, .slice (some ⟨b2, 0, none⟩) 2 2, .int .i64 (k : Int), .int .i64 (r3 : Int), .slice (some ⟨b2, 0, none⟩) r3 2, .agg #[.string ic, .string us, .string ⟨#[]⟩, .bool false, .string ⟨#[]⟩, .int .i64 km, .slice (some ⟨b1, 0, none⟩) 1 1, .slice (some ⟨b2, 0, none⟩) r3 2, .string ⟨#[]⟩, .slice none 0 0], u20, u21, u22, u23, u24, u25, u26, u27], defers := [] } W := by
 rw [show (regO (tlN (Tryd.f12.body.getD .skip) 2)) = List.toArray _ from rfl]
 obtain ⟨hB1, hB2, hz, hf⟩ := hI.out.v B rfl
 have z0 := hz 0 (by decide)
 have z1 := hz 1 (by decide)
 have z2 := hz 2 (by decide)
 have z3 := hz 3 (by decide)
 have z4 := hz 4 (by decide)
 have z5 := hz 5 (by decide)
 have z6 := hz 6 (by decide)
 have z7 := hz 7 (by decide)
 have z8 := hz 8 (by decide)
 have z9 := hz 9 (by decide)
 simp only [List.getElem?_toArray, List.getElem?_cons_zero, List.getElem?_cons_succ, Option.getD_some] at z0 z1 z2 z3 z4 z5 z6 z7 z8 z9
 clear hz
 refine wpAnyH_ready (rs := [14]) (by kernel_rfl) (by simp) ?_
 refine AllReadyH.cons rfl (fun K hK => ?_) AllReadyH.nil
 go_simp
 refine hK.out _ _ trivial (fun _ => ?_)
 clear hK K
 try simp only [List.setIfInBounds_toArray, List.set_cons_zero, List.set_cons_succ]
 refine wpAnyH_done (by kernel_rfl) ?_ _
 first
  | exact HF.out b1 b2 B W hI.out
  | exact HF.out b1 b2 B _ hI.out.dr
  | exact HF.out b1 b2 B _ hI.out.dr.dr
set_option maxRecDepth 100000 in
set_option maxHeartbeats 2000000 in
theorem deN2110 (p : Nat) {bs : Nat -> Nat} {m q k r3 : Nat} {km : Int} {dc ic us : ByteArray} {w : World} {Q : Exit -> Act -> World -> Prop} {u1 u4 u20 u21 u22 u23 u24 u25 u26 u27 : Value} {b1 b2 : Nat} (W : World) (HP : ∀ (c : List PanicEntry) (a : Act) (d : Option Tmp) (v : Value) (x : World), Q (.panic c) (a.put d v) x -> Q (.panic c) a x) (hk : k < 256) (hr3 : r3 <= 2) (hds : ¬ 9223372036854775807 < 1 + dc.size) (Hdc : Hid (dc = decB k)) (Hic : Hid (ic = ⟨#[36]⟩ ++ dc)) (Hus : Hid (us = usr k)) (hI : Hid (DeI p w W bs m q (some b1) (some b2) none)) (HF : Hid (∀ b1 b2 B W', DeI p w W' bs m q (some b1) (some b2) (some B) -> Q .normal { tmps := #[.pointer (some ⟨p, 0, none⟩), u1, .pointer (some ⟨w.heap.size, 0, none⟩), .int .i64 (k : Int), .pointer (some ⟨B, 0, none⟩), .pointer (some ⟨p, 0, none⟩), .int .i64 (k : Int), .int .i64 (k : Int), .string dc, .string ic, .int .i64 (k : Int), .string us, .int .i64 (k : Int), .int .i64 km, .slice (some ⟨b1, 0, none⟩) 1 1, .slice (some ⟨b2, 0, none⟩) 2 2, .int .i64 (k : Int), .int .i64 (r3 : Int), .slice (some ⟨b2, 0, none⟩) r3 2, .agg #[.string ic, .string us, .string ⟨#[]⟩, .bool false, .string ⟨#[]⟩, .int .i64 km, .slice (some ⟨b1, 0, none⟩) 1 1, .slice (some ⟨b2, 0, none⟩) r3 2, .string ⟨#[]⟩, .slice none 0 0], u20, u21, u22, u23, u24, u25, u26, u27], defers := [] } (fil10 W' B (.string ic) (.string us) (.string ⟨#[]⟩) (.bool false) (.string ⟨#[]⟩) (.int .i64 km) (.slice (some ⟨b1, 0, none⟩) 1 1) (.slice (some ⟨b2, 0, none⟩) r3 2) (.string ⟨#[]⟩) (.slice none 0 0)))) :
  wpAnyH Tryd.prog .any (regO (tlN (Tryd.f12.body.getD .skip) 2)) Q (fun _ => True) 2 #[true, true, true, true, true, true, true, true, true, true, true, true, true, false, false] { tmps := #[.pointer (some ⟨p, 0, none⟩), u1, .pointer (some ⟨w.heap.size, 0, none⟩), .int .i64 (k : Int), u4, .pointer (some ⟨p, 0, none⟩), .int .i64 (k : Int), .int .i64 (k : Int), .string dc, .string ic, .int .i64 (k : Int), .string us, .int .i64 (k : Int), .int .i64 km, .slice (some ⟨b1, 0, none⟩) 1 1, .slice (some ⟨b2, 0, none⟩) 2 2, .int .i64 (k : Int), .int .i64 (r3 : Int), .slice (some ⟨b2, 0, none⟩) r3 2, .agg #[.string ic, .string us, .string ⟨#[]⟩, .bool false, .string ⟨#[]⟩, .int .i64 km, .slice (some ⟨b1, 0, none⟩) 1 1, .slice (some ⟨b2, 0, none⟩) r3 2, .string ⟨#[]⟩, .slice none 0 0], u20, u21, u22, u23, u24, u25, u26, u27], defers := [] } W := by
 rw [show (regO (tlN (Tryd.f12.body.getD .skip) 2)) = List.toArray _ from rfl]
 refine wpAnyH_ready (rs := [13]) (by kernel_rfl) (by simp) ?_
 refine AllReadyH.cons rfl (fun K hK => ?_) AllReadyH.nil
 ·go_simp
  refine hK.out _ _ trivial (fun _ => ?_)
  clear hK K
  try simp only [List.setIfInBounds_toArray, List.set_cons_zero, List.set_cons_succ]
  exact wpO rfl (by kernel_rfl) (deN2111 p _ HP hk hr3 hds Hdc Hic Hus (hI.out.allocV) HF)
set_option maxRecDepth 100000 in
set_option maxHeartbeats 2000000 in
theorem deN1111 (p : Nat) {bs : Nat -> Nat} {m q k r3 : Nat} {km : Int} {dc ic us : ByteArray} {w : World} {Q : Exit -> Act -> World -> Prop} {u1 u11 u19 u20 u21 u22 u23 u24 u25 u26 u27 : Value} {b1 b2 B : Nat} (W : World) (HP : ∀ (c : List PanicEntry) (a : Act) (d : Option Tmp) (v : Value) (x : World), Q (.panic c) (a.put d v) x -> Q (.panic c) a x) (hk : k < 256) (hr3 : r3 <= 2) (hds : ¬ 9223372036854775807 < 1 + dc.size) (Hdc : Hid (dc = decB k)) (Hic : Hid (ic = ⟨#[36]⟩ ++ dc)) (Hus : Hid (us = usr k)) (hI : Hid (DeI p w W bs m q (some b1) (some b2) (some B))) (HF : Hid (∀ b1 b2 B W', DeI p w W' bs m q (some b1) (some b2) (some B) -> Q .normal { tmps := #[.pointer (some ⟨p, 0, none⟩), u1, .pointer (some ⟨w.heap.size, 0, none⟩), .int .i64 (k : Int), .pointer (some ⟨B, 0, none⟩), .pointer (some ⟨p, 0, none⟩), .int .i64 (k : Int), .int .i64 (k : Int), .string dc, .string ic, .int .i64 (k : Int), .string us, .int .i64 (k : Int), .int .i64 km, .slice (some ⟨b1, 0, none⟩) 1 1, .slice (some ⟨b2, 0, none⟩) 2 2, .int .i64 (k : Int), .int .i64 (r3 : Int), .slice (some ⟨b2, 0, none⟩) r3 2, .agg #[.string ic, .string us, .string ⟨#[]⟩, .bool false, .string ⟨#[]⟩, .int .i64 km, .slice (some ⟨b1, 0, none⟩) 1 1, .slice (some ⟨b2, 0, none⟩) r3 2, .string ⟨#[]⟩, .slice none 0 0], u20, u21, u22, u23, u24, u25, u26, u27], defers := [] } (fil10 W' B (.string ic) (.string us) (.string ⟨#[]⟩) (.bool false) (.string ⟨#[]⟩) (.int .i64 km) (.slice (some ⟨b1, 0, none⟩) 1 1) (.slice (some ⟨b2, 0, none⟩) r3 2) (.string ⟨#[]⟩) (.slice none 0 0)))) :
  wpAnyH Tryd.prog .any (regO (tlN (Tryd.f12.body.getD .skip) 2)) Q (fun _ => True) 3 #[true, true, true, true, false, true, true, true, true, true, true, true, false, true, false] { tmps := #[.pointer (some ⟨p, 0, none⟩), u1, .pointer (some ⟨w.heap.size, 0, none⟩), .int .i64 (k : Int), .pointer (some ⟨B, 0, none⟩), .pointer (some ⟨p, 0, none⟩), .int .i64 (k : Int), .int .i64 (k : Int), .string dc, .string ic, .int .i64 (k : Int), u11, .int .i64 (k : Int), .int .i64 km, .slice (some ⟨b1, 0, none⟩) 1 1, .slice (some ⟨b2, 0, none⟩) 2 2, .int .i64 (k : Int), .int .i64 (r3 : Int), .slice (some ⟨b2, 0, none⟩) r3 2, u19, u20, u21, u22, u23, u24, u25, u26, u27], defers := [] } W := by
 rw [show (regO (tlN (Tryd.f12.body.getD .skip) 2)) = List.toArray _ from rfl]
 refine wpAnyH_ready (rs := [4]) (by kernel_rfl) (by simp) ?_
 refine AllReadyH.cons rfl (fun K hK => ?_) AllReadyH.nil
 ·go_simp
  go_at_call 28
  refine (userF k _ (by omega)).mono ?_
  rintro e w3 ⟨rfl, hb3⟩
  rw [<- Hus.out]
  try dsimp only
  refine hK.out _ _ trivial (fun _ => ?_)
  clear hK K
  try simp only [List.setIfInBounds_toArray, List.set_cons_zero, List.set_cons_succ]
  refine wpAnyH_take (i := 12) (v := ?vm1) rfl (by kernel_rfl) (by kernel_rfl) (by kernel_rfl) (fun c _ _ h => HP c _ _ _ _ h) (Or.inl ⟨by rfl, ?hm1⟩) trivial ?_
  case hm1 => (intro w h; (try dsimp only at h); go_simp; try (with_reducible rfl))
  simp only [Act.put, si]
  exact wpO rfl (by kernel_rfl) (deN2111 p _ HP hk hr3 hds Hdc Hic Hus (hI.out.below hb3) HF)
set_option maxRecDepth 100000 in
set_option maxHeartbeats 2000000 in
theorem deN2011 (p : Nat) {bs : Nat -> Nat} {m q k r3 : Nat} {km : Int} {dc ic us : ByteArray} {w : World} {Q : Exit -> Act -> World -> Prop} {u1 u14 u19 u20 u21 u22 u23 u24 u25 u26 u27 : Value} {b2 B : Nat} (W : World) (HP : ∀ (c : List PanicEntry) (a : Act) (d : Option Tmp) (v : Value) (x : World), Q (.panic c) (a.put d v) x -> Q (.panic c) a x) (hk : k < 256) (hr3 : r3 <= 2) (hds : ¬ 9223372036854775807 < 1 + dc.size) (Hdc : Hid (dc = decB k)) (Hic : Hid (ic = ⟨#[36]⟩ ++ dc)) (Hus : Hid (us = usr k)) (hI : Hid (DeI p w W bs m q none (some b2) (some B))) (HF : Hid (∀ b1 b2 B W', DeI p w W' bs m q (some b1) (some b2) (some B) -> Q .normal { tmps := #[.pointer (some ⟨p, 0, none⟩), u1, .pointer (some ⟨w.heap.size, 0, none⟩), .int .i64 (k : Int), .pointer (some ⟨B, 0, none⟩), .pointer (some ⟨p, 0, none⟩), .int .i64 (k : Int), .int .i64 (k : Int), .string dc, .string ic, .int .i64 (k : Int), .string us, .int .i64 (k : Int), .int .i64 km, .slice (some ⟨b1, 0, none⟩) 1 1, .slice (some ⟨b2, 0, none⟩) 2 2, .int .i64 (k : Int), .int .i64 (r3 : Int), .slice (some ⟨b2, 0, none⟩) r3 2, .agg #[.string ic, .string us, .string ⟨#[]⟩, .bool false, .string ⟨#[]⟩, .int .i64 km, .slice (some ⟨b1, 0, none⟩) 1 1, .slice (some ⟨b2, 0, none⟩) r3 2, .string ⟨#[]⟩, .slice none 0 0], u20, u21, u22, u23, u24, u25, u26, u27], defers := [] } (fil10 W' B (.string ic) (.string us) (.string ⟨#[]⟩) (.bool false) (.string ⟨#[]⟩) (.int .i64 km) (.slice (some ⟨b1, 0, none⟩) 1 1) (.slice (some ⟨b2, 0, none⟩) r3 2) (.string ⟨#[]⟩) (.slice none 0 0)))) :
  wpAnyH Tryd.prog .any (regO (tlN (Tryd.f12.body.getD .skip) 2)) Q (fun _ => True) 3 #[true, true, true, true, true, true, true, false, true, true, true, true, false, true, false] { tmps := #[.pointer (some ⟨p, 0, none⟩), u1, .pointer (some ⟨w.heap.size, 0, none⟩), .int .i64 (k : Int), .pointer (some ⟨B, 0, none⟩), .pointer (some ⟨p, 0, none⟩), .int .i64 (k : Int), .int .i64 (k : Int), .string dc, .string ic, .int .i64 (k : Int), .string us, .int .i64 (k : Int), .int .i64 km, u14, .slice (some ⟨b2, 0, none⟩) 2 2, .int .i64 (k : Int), .int .i64 (r3 : Int), .slice (some ⟨b2, 0, none⟩) r3 2, u19, u20, u21, u22, u23, u24, u25, u26, u27], defers := [] } W := by
 rw [show (regO (tlN (Tryd.f12.body.getD .skip) 2)) = List.toArray _ from rfl]
 refine wpAnyH_ready (rs := [7]) (by kernel_rfl) (by simp) ?_
 refine AllReadyH.cons rfl (fun K hK => ?_) AllReadyH.nil
 ·go_simp
  refine hK.out _ _ trivial (fun _ => ?_)
  clear hK K
  try simp only [List.setIfInBounds_toArray, List.set_cons_zero, List.set_cons_succ]
  refine wpAnyH_take (i := 12) (v := ?vm1) rfl (by kernel_rfl) (by kernel_rfl) (by kernel_rfl) (fun c _ _ h => HP c _ _ _ _ h) (Or.inl ⟨by rfl, ?hm1⟩) trivial ?_
  case hm1 => (intro w h; (try dsimp only at h); go_simp; try (with_reducible rfl))
  simp only [Act.put, si]
  exact wpO rfl (by kernel_rfl) (deN2111 p _ HP hk hr3 hds Hdc Hic Hus (hI.out.allocA) HF)
set_option maxRecDepth 100000 in
set_option maxHeartbeats 2000000 in
theorem deN1011 (p : Nat) {bs : Nat -> Nat} {m q k r3 : Nat} {km : Int} {dc ic us : ByteArray} {w : World} {Q : Exit -> Act -> World -> Prop} {u1 u11 u14 u19 u20 u21 u22 u23 u24 u25 u26 u27 : Value} {b2 B : Nat} (W : World) (HP : ∀ (c : List PanicEntry) (a : Act) (d : Option Tmp) (v : Value) (x : World), Q (.panic c) (a.put d v) x -> Q (.panic c) a x) (hk : k < 256) (hr3 : r3 <= 2) (hds : ¬ 9223372036854775807 < 1 + dc.size) (Hdc : Hid (dc = decB k)) (Hic : Hid (ic = ⟨#[36]⟩ ++ dc)) (Hus : Hid (us = usr k)) (hI : Hid (DeI p w W bs m q none (some b2) (some B))) (HF : Hid (∀ b1 b2 B W', DeI p w W' bs m q (some b1) (some b2) (some B) -> Q .normal { tmps := #[.pointer (some ⟨p, 0, none⟩), u1, .pointer (some ⟨w.heap.size, 0, none⟩), .int .i64 (k : Int), .pointer (some ⟨B, 0, none⟩), .pointer (some ⟨p, 0, none⟩), .int .i64 (k : Int), .int .i64 (k : Int), .string dc, .string ic, .int .i64 (k : Int), .string us, .int .i64 (k : Int), .int .i64 km, .slice (some ⟨b1, 0, none⟩) 1 1, .slice (some ⟨b2, 0, none⟩) 2 2, .int .i64 (k : Int), .int .i64 (r3 : Int), .slice (some ⟨b2, 0, none⟩) r3 2, .agg #[.string ic, .string us, .string ⟨#[]⟩, .bool false, .string ⟨#[]⟩, .int .i64 km, .slice (some ⟨b1, 0, none⟩) 1 1, .slice (some ⟨b2, 0, none⟩) r3 2, .string ⟨#[]⟩, .slice none 0 0], u20, u21, u22, u23, u24, u25, u26, u27], defers := [] } (fil10 W' B (.string ic) (.string us) (.string ⟨#[]⟩) (.bool false) (.string ⟨#[]⟩) (.int .i64 km) (.slice (some ⟨b1, 0, none⟩) 1 1) (.slice (some ⟨b2, 0, none⟩) r3 2) (.string ⟨#[]⟩) (.slice none 0 0)))) :
  wpAnyH Tryd.prog .any (regO (tlN (Tryd.f12.body.getD .skip) 2)) Q (fun _ => True) 4 #[true, true, true, true, false, true, true, false, true, true, true, true, false, true, false] { tmps := #[.pointer (some ⟨p, 0, none⟩), u1, .pointer (some ⟨w.heap.size, 0, none⟩), .int .i64 (k : Int), .pointer (some ⟨B, 0, none⟩), .pointer (some ⟨p, 0, none⟩), .int .i64 (k : Int), .int .i64 (k : Int), .string dc, .string ic, .int .i64 (k : Int), u11, .int .i64 (k : Int), .int .i64 km, u14, .slice (some ⟨b2, 0, none⟩) 2 2, .int .i64 (k : Int), .int .i64 (r3 : Int), .slice (some ⟨b2, 0, none⟩) r3 2, u19, u20, u21, u22, u23, u24, u25, u26, u27], defers := [] } W := by
 rw [show (regO (tlN (Tryd.f12.body.getD .skip) 2)) = List.toArray _ from rfl]
 refine wpAnyH_ready (rs := [4, 7]) (by kernel_rfl) (by simp) ?_
 refine AllReadyH.cons rfl (fun K hK => ?_) (AllReadyH.cons rfl (fun K hK => ?_) AllReadyH.nil)
 ·go_simp
  go_at_call 28
  refine (userF k _ (by omega)).mono ?_
  rintro e w3 ⟨rfl, hb3⟩
  rw [<- Hus.out]
  try dsimp only
  refine hK.out _ _ trivial (fun _ => ?_)
  clear hK K
  try simp only [List.setIfInBounds_toArray, List.set_cons_zero, List.set_cons_succ]
  exact wpO rfl (by kernel_rfl) (deN2011 p _ HP hk hr3 hds Hdc Hic Hus (hI.out.below hb3) HF)
 ·go_simp
  refine hK.out _ _ trivial (fun _ => ?_)
  clear hK K
  try simp only [List.setIfInBounds_toArray, List.set_cons_zero, List.set_cons_succ]
  exact wpO rfl (by kernel_rfl) (deN1111 p _ HP hk hr3 hds Hdc Hic Hus (hI.out.allocA) HF)
set_option maxRecDepth 100000 in
set_option maxHeartbeats 2000000 in
theorem deN1110 (p : Nat) {bs : Nat -> Nat} {m q k r3 : Nat} {km : Int} {dc ic us : ByteArray} {w : World} {Q : Exit -> Act -> World -> Prop} {u1 u4 u11 u19 u20 u21 u22 u23 u24 u25 u26 u27 : Value} {b1 b2 : Nat} (W : World) (HP : ∀ (c : List PanicEntry) (a : Act) (d : Option Tmp) (v : Value) (x : World), Q (.panic c) (a.put d v) x -> Q (.panic c) a x) (hk : k < 256) (hr3 : r3 <= 2) (hds : ¬ 9223372036854775807 < 1 + dc.size) (Hdc : Hid (dc = decB k)) (Hic : Hid (ic = ⟨#[36]⟩ ++ dc)) (Hus : Hid (us = usr k)) (hI : Hid (DeI p w W bs m q (some b1) (some b2) none)) (HF : Hid (∀ b1 b2 B W', DeI p w W' bs m q (some b1) (some b2) (some B) -> Q .normal { tmps := #[.pointer (some ⟨p, 0, none⟩), u1, .pointer (some ⟨w.heap.size, 0, none⟩), .int .i64 (k : Int), .pointer (some ⟨B, 0, none⟩), .pointer (some ⟨p, 0, none⟩), .int .i64 (k : Int), .int .i64 (k : Int), .string dc, .string ic, .int .i64 (k : Int), .string us, .int .i64 (k : Int), .int .i64 km, .slice (some ⟨b1, 0, none⟩) 1 1, .slice (some ⟨b2, 0, none⟩) 2 2, .int .i64 (k : Int), .int .i64 (r3 : Int), .slice (some ⟨b2, 0, none⟩) r3 2, .agg #[.string ic, .string us, .string ⟨#[]⟩, .bool false, .string ⟨#[]⟩, .int .i64 km, .slice (some ⟨b1, 0, none⟩) 1 1, .slice (some ⟨b2, 0, none⟩) r3 2, .string ⟨#[]⟩, .slice none 0 0], u20, u21, u22, u23, u24, u25, u26, u27], defers := [] } (fil10 W' B (.string ic) (.string us) (.string ⟨#[]⟩) (.bool false) (.string ⟨#[]⟩) (.int .i64 km) (.slice (some ⟨b1, 0, none⟩) 1 1) (.slice (some ⟨b2, 0, none⟩) r3 2) (.string ⟨#[]⟩) (.slice none 0 0)))) :
  wpAnyH Tryd.prog .any (regO (tlN (Tryd.f12.body.getD .skip) 2)) Q (fun _ => True) 4 #[true, true, true, true, false, true, true, true, true, true, true, true, false, false, false] { tmps := #[.pointer (some ⟨p, 0, none⟩), u1, .pointer (some ⟨w.heap.size, 0, none⟩), .int .i64 (k : Int), u4, .pointer (some ⟨p, 0, none⟩), .int .i64 (k : Int), .int .i64 (k : Int), .string dc, .string ic, .int .i64 (k : Int), u11, .int .i64 (k : Int), .int .i64 km, .slice (some ⟨b1, 0, none⟩) 1 1, .slice (some ⟨b2, 0, none⟩) 2 2, .int .i64 (k : Int), .int .i64 (r3 : Int), .slice (some ⟨b2, 0, none⟩) r3 2, u19, u20, u21, u22, u23, u24, u25, u26, u27], defers := [] } W := by
 rw [show (regO (tlN (Tryd.f12.body.getD .skip) 2)) = List.toArray _ from rfl]
 refine wpAnyH_ready (rs := [4, 13]) (by kernel_rfl) (by simp) ?_
 refine AllReadyH.cons rfl (fun K hK => ?_) (AllReadyH.cons rfl (fun K hK => ?_) AllReadyH.nil)
 ·go_simp
  go_at_call 28
  refine (userF k _ (by omega)).mono ?_
  rintro e w3 ⟨rfl, hb3⟩
  rw [<- Hus.out]
  try dsimp only
  refine hK.out _ _ trivial (fun _ => ?_)
  clear hK K
  try simp only [List.setIfInBounds_toArray, List.set_cons_zero, List.set_cons_succ]
  refine wpAnyH_take (i := 12) (v := ?vm1) rfl (by kernel_rfl) (by kernel_rfl) (by kernel_rfl) (fun c _ _ h => HP c _ _ _ _ h) (Or.inl ⟨by rfl, ?hm1⟩) trivial ?_
  case hm1 => (intro w h; (try dsimp only at h); go_simp; try (with_reducible rfl))
  simp only [Act.put, si]
  exact wpO rfl (by kernel_rfl) (deN2110 p _ HP hk hr3 hds Hdc Hic Hus (hI.out.below hb3) HF)
 ·go_simp
  refine hK.out _ _ trivial (fun _ => ?_)
  clear hK K
  try simp only [List.setIfInBounds_toArray, List.set_cons_zero, List.set_cons_succ]
  exact wpO rfl (by kernel_rfl) (deN1111 p _ HP hk hr3 hds Hdc Hic Hus (hI.out.allocV) HF)
set_option maxRecDepth 100000 in
set_option maxHeartbeats 2000000 in
theorem deN2010 (p : Nat) {bs : Nat -> Nat} {m q k r3 : Nat} {km : Int} {dc ic us : ByteArray} {w : World} {Q : Exit -> Act -> World -> Prop} {u1 u4 u14 u19 u20 u21 u22 u23 u24 u25 u26 u27 : Value} {b2 : Nat} (W : World) (HP : ∀ (c : List PanicEntry) (a : Act) (d : Option Tmp) (v : Value) (x : World), Q (.panic c) (a.put d v) x -> Q (.panic c) a x) (hk : k < 256) (hr3 : r3 <= 2) (hds : ¬ 9223372036854775807 < 1 + dc.size) (Hdc : Hid (dc = decB k)) (Hic : Hid (ic = ⟨#[36]⟩ ++ dc)) (Hus : Hid (us = usr k)) (hI : Hid (DeI p w W bs m q none (some b2) none)) (HF : Hid (∀ b1 b2 B W', DeI p w W' bs m q (some b1) (some b2) (some B) -> Q .normal { tmps := #[.pointer (some ⟨p, 0, none⟩), u1, .pointer (some ⟨w.heap.size, 0, none⟩), .int .i64 (k : Int), .pointer (some ⟨B, 0, none⟩), .pointer (some ⟨p, 0, none⟩), .int .i64 (k : Int), .int .i64 (k : Int), .string dc, .string ic, .int .i64 (k : Int), .string us, .int .i64 (k : Int), .int .i64 km, .slice (some ⟨b1, 0, none⟩) 1 1, .slice (some ⟨b2, 0, none⟩) 2 2, .int .i64 (k : Int), .int .i64 (r3 : Int), .slice (some ⟨b2, 0, none⟩) r3 2, .agg #[.string ic, .string us, .string ⟨#[]⟩, .bool false, .string ⟨#[]⟩, .int .i64 km, .slice (some ⟨b1, 0, none⟩) 1 1, .slice (some ⟨b2, 0, none⟩) r3 2, .string ⟨#[]⟩, .slice none 0 0], u20, u21, u22, u23, u24, u25, u26, u27], defers := [] } (fil10 W' B (.string ic) (.string us) (.string ⟨#[]⟩) (.bool false) (.string ⟨#[]⟩) (.int .i64 km) (.slice (some ⟨b1, 0, none⟩) 1 1) (.slice (some ⟨b2, 0, none⟩) r3 2) (.string ⟨#[]⟩) (.slice none 0 0)))) :
  wpAnyH Tryd.prog .any (regO (tlN (Tryd.f12.body.getD .skip) 2)) Q (fun _ => True) 4 #[true, true, true, true, true, true, true, false, true, true, true, true, false, false, false] { tmps := #[.pointer (some ⟨p, 0, none⟩), u1, .pointer (some ⟨w.heap.size, 0, none⟩), .int .i64 (k : Int), u4, .pointer (some ⟨p, 0, none⟩), .int .i64 (k : Int), .int .i64 (k : Int), .string dc, .string ic, .int .i64 (k : Int), .string us, .int .i64 (k : Int), .int .i64 km, u14, .slice (some ⟨b2, 0, none⟩) 2 2, .int .i64 (k : Int), .int .i64 (r3 : Int), .slice (some ⟨b2, 0, none⟩) r3 2, u19, u20, u21, u22, u23, u24, u25, u26, u27], defers := [] } W := by
 rw [show (regO (tlN (Tryd.f12.body.getD .skip) 2)) = List.toArray _ from rfl]
 refine wpAnyH_ready (rs := [7, 13]) (by kernel_rfl) (by simp) ?_
 refine AllReadyH.cons rfl (fun K hK => ?_) (AllReadyH.cons rfl (fun K hK => ?_) AllReadyH.nil)
 ·go_simp
  refine hK.out _ _ trivial (fun _ => ?_)
  clear hK K
  try simp only [List.setIfInBounds_toArray, List.set_cons_zero, List.set_cons_succ]
  refine wpAnyH_take (i := 12) (v := ?vm1) rfl (by kernel_rfl) (by kernel_rfl) (by kernel_rfl) (fun c _ _ h => HP c _ _ _ _ h) (Or.inl ⟨by rfl, ?hm1⟩) trivial ?_
  case hm1 => (intro w h; (try dsimp only at h); go_simp; try (with_reducible rfl))
  simp only [Act.put, si]
  exact wpO rfl (by kernel_rfl) (deN2110 p _ HP hk hr3 hds Hdc Hic Hus (hI.out.allocA) HF)
 ·go_simp
  refine hK.out _ _ trivial (fun _ => ?_)
  clear hK K
  try simp only [List.setIfInBounds_toArray, List.set_cons_zero, List.set_cons_succ]
  exact wpO rfl (by kernel_rfl) (deN2011 p _ HP hk hr3 hds Hdc Hic Hus (hI.out.allocV) HF)
set_option maxRecDepth 100000 in
set_option maxHeartbeats 2000000 in
theorem deN2101 (p : Nat) {bs : Nat -> Nat} {m q k r3 : Nat} {km : Int} {dc ic us : ByteArray} {w : World} {Q : Exit -> Act -> World -> Prop} {u1 u15 u18 u19 u20 u21 u22 u23 u24 u25 u26 u27 : Value} {b1 B : Nat} (W : World) (HP : ∀ (c : List PanicEntry) (a : Act) (d : Option Tmp) (v : Value) (x : World), Q (.panic c) (a.put d v) x -> Q (.panic c) a x) (hk : k < 256) (hr3 : r3 <= 2) (hds : ¬ 9223372036854775807 < 1 + dc.size) (Hdc : Hid (dc = decB k)) (Hic : Hid (ic = ⟨#[36]⟩ ++ dc)) (Hus : Hid (us = usr k)) (hI : Hid (DeI p w W bs m q (some b1) none (some B))) (HF : Hid (∀ b1 b2 B W', DeI p w W' bs m q (some b1) (some b2) (some B) -> Q .normal { tmps := #[.pointer (some ⟨p, 0, none⟩), u1, .pointer (some ⟨w.heap.size, 0, none⟩), .int .i64 (k : Int), .pointer (some ⟨B, 0, none⟩), .pointer (some ⟨p, 0, none⟩), .int .i64 (k : Int), .int .i64 (k : Int), .string dc, .string ic, .int .i64 (k : Int), .string us, .int .i64 (k : Int), .int .i64 km, .slice (some ⟨b1, 0, none⟩) 1 1, .slice (some ⟨b2, 0, none⟩) 2 2, .int .i64 (k : Int), .int .i64 (r3 : Int), .slice (some ⟨b2, 0, none⟩) r3 2, .agg #[.string ic, .string us, .string ⟨#[]⟩, .bool false, .string ⟨#[]⟩, .int .i64 km, .slice (some ⟨b1, 0, none⟩) 1 1, .slice (some ⟨b2, 0, none⟩) r3 2, .string ⟨#[]⟩, .slice none 0 0], u20, u21, u22, u23, u24, u25, u26, u27], defers := [] } (fil10 W' B (.string ic) (.string us) (.string ⟨#[]⟩) (.bool false) (.string ⟨#[]⟩) (.int .i64 km) (.slice (some ⟨b1, 0, none⟩) 1 1) (.slice (some ⟨b2, 0, none⟩) r3 2) (.string ⟨#[]⟩) (.slice none 0 0)))) :
  wpAnyH Tryd.prog .any (regO (tlN (Tryd.f12.body.getD .skip) 2)) Q (fun _ => True) 4 #[true, true, true, true, true, true, true, true, false, true, true, false, false, true, false] { tmps := #[.pointer (some ⟨p, 0, none⟩), u1, .pointer (some ⟨w.heap.size, 0, none⟩), .int .i64 (k : Int), .pointer (some ⟨B, 0, none⟩), .pointer (some ⟨p, 0, none⟩), .int .i64 (k : Int), .int .i64 (k : Int), .string dc, .string ic, .int .i64 (k : Int), .string us, .int .i64 (k : Int), .int .i64 km, .slice (some ⟨b1, 0, none⟩) 1 1, u15, .int .i64 (k : Int), .int .i64 (r3 : Int), u18, u19, u20, u21, u22, u23, u24, u25, u26, u27], defers := [] } W := by
 rw [show (regO (tlN (Tryd.f12.body.getD .skip) 2)) = List.toArray _ from rfl]
 refine wpAnyH_ready (rs := [8]) (by kernel_rfl) (by simp) ?_
 refine AllReadyH.cons rfl (fun K hK => ?_) AllReadyH.nil
 ·have hr3i : (r3 : Int) <= 2 := by omega
  go_simp
  refine hK.out _ _ trivial (fun _ => ?_)
  clear hK K
  try simp only [List.setIfInBounds_toArray, List.set_cons_zero, List.set_cons_succ]
  refine wpAnyH_take (i := 11) (v := ?vm1) rfl (by kernel_rfl) (by kernel_rfl) (by kernel_rfl) (fun c _ _ h => HP c _ _ _ _ h) (Or.inl ⟨by rfl, ?hm1⟩) trivial ?_
  case hm1 => (intro w h; (try dsimp only at h); go_simp; try (with_reducible rfl))
  simp only [Act.put, si]
  refine wpAnyH_take (i := 12) (v := ?vm2) rfl (by kernel_rfl) (by kernel_rfl) (by kernel_rfl) (fun c _ _ h => HP c _ _ _ _ h) (Or.inl ⟨by rfl, ?hm2⟩) trivial ?_
  case hm2 => (intro w h; (try dsimp only at h); go_simp; try (with_reducible rfl))
  simp only [Act.put, si]
  exact wpO rfl (by kernel_rfl) (deN2111 p _ HP hk hr3 hds Hdc Hic Hus (hI.out.allocB) HF)
set_option maxRecDepth 100000 in
set_option maxHeartbeats 2000000 in
theorem deN0111 (p : Nat) {bs : Nat -> Nat} {m q k r3 : Nat} {km : Int} {dc ic us : ByteArray} {w : World} {Q : Exit -> Act -> World -> Prop} {u1 u8 u9 u11 u19 u20 u21 u22 u23 u24 u25 u26 u27 : Value} {b1 b2 B : Nat} (W : World) (HP : ∀ (c : List PanicEntry) (a : Act) (d : Option Tmp) (v : Value) (x : World), Q (.panic c) (a.put d v) x -> Q (.panic c) a x) (hk : k < 256) (hr3 : r3 <= 2) (hds : ¬ 9223372036854775807 < 1 + dc.size) (Hdc : Hid (dc = decB k)) (Hic : Hid (ic = ⟨#[36]⟩ ++ dc)) (Hus : Hid (us = usr k)) (hI : Hid (DeI p w W bs m q (some b1) (some b2) (some B))) (HF : Hid (∀ b1 b2 B W', DeI p w W' bs m q (some b1) (some b2) (some B) -> Q .normal { tmps := #[.pointer (some ⟨p, 0, none⟩), u1, .pointer (some ⟨w.heap.size, 0, none⟩), .int .i64 (k : Int), .pointer (some ⟨B, 0, none⟩), .pointer (some ⟨p, 0, none⟩), .int .i64 (k : Int), .int .i64 (k : Int), .string dc, .string ic, .int .i64 (k : Int), .string us, .int .i64 (k : Int), .int .i64 km, .slice (some ⟨b1, 0, none⟩) 1 1, .slice (some ⟨b2, 0, none⟩) 2 2, .int .i64 (k : Int), .int .i64 (r3 : Int), .slice (some ⟨b2, 0, none⟩) r3 2, .agg #[.string ic, .string us, .string ⟨#[]⟩, .bool false, .string ⟨#[]⟩, .int .i64 km, .slice (some ⟨b1, 0, none⟩) 1 1, .slice (some ⟨b2, 0, none⟩) r3 2, .string ⟨#[]⟩, .slice none 0 0], u20, u21, u22, u23, u24, u25, u26, u27], defers := [] } (fil10 W' B (.string ic) (.string us) (.string ⟨#[]⟩) (.bool false) (.string ⟨#[]⟩) (.int .i64 km) (.slice (some ⟨b1, 0, none⟩) 1 1) (.slice (some ⟨b2, 0, none⟩) r3 2) (.string ⟨#[]⟩) (.slice none 0 0)))) :
  wpAnyH Tryd.prog .any (regO (tlN (Tryd.f12.body.getD .skip) 2)) Q (fun _ => True) 5 #[true, false, false, true, false, true, true, true, true, true, true, true, false, true, false] { tmps := #[.pointer (some ⟨p, 0, none⟩), u1, .pointer (some ⟨w.heap.size, 0, none⟩), .int .i64 (k : Int), .pointer (some ⟨B, 0, none⟩), .pointer (some ⟨p, 0, none⟩), .int .i64 (k : Int), .int .i64 (k : Int), u8, u9, .int .i64 (k : Int), u11, .int .i64 (k : Int), .int .i64 km, .slice (some ⟨b1, 0, none⟩) 1 1, .slice (some ⟨b2, 0, none⟩) 2 2, .int .i64 (k : Int), .int .i64 (r3 : Int), .slice (some ⟨b2, 0, none⟩) r3 2, u19, u20, u21, u22, u23, u24, u25, u26, u27], defers := [] } W := by
 rw [show (regO (tlN (Tryd.f12.body.getD .skip) 2)) = List.toArray _ from rfl]
 refine wpAnyH_ready (rs := [1]) (by kernel_rfl) (by simp) ?_
 refine AllReadyH.cons rfl (fun K hK => ?_) AllReadyH.nil
 ·go_simp
  go_at_call 27
  refine (decF k (by omega) _).mono ?_
  rintro e w3 ⟨rfl, hb3⟩
  rw [<- Hdc.out]
  try dsimp only
  refine hK.out _ _ trivial (fun _ => ?_)
  clear hK K
  try simp only [List.setIfInBounds_toArray, List.set_cons_zero, List.set_cons_succ]
  refine wpAnyH_take (i := 2) (v := (.string ic)) rfl (by kernel_rfl) (by kernel_rfl) (by kernel_rfl) (fun c _ _ h => HP c _ _ _ _ h) (Or.inl ⟨by rfl, ?hm1⟩) trivial ?_
  case hm1 => (intro w h; (try dsimp only at h); go_simp; (try rw [Hic.out]))
  simp only [Act.put, si]
  exact wpO rfl (by kernel_rfl) (deN1111 p _ HP hk hr3 hds Hdc Hic Hus (hI.out.below hb3) HF)
set_option maxRecDepth 100000 in
set_option maxHeartbeats 2000000 in
theorem deN1010 (p : Nat) {bs : Nat -> Nat} {m q k r3 : Nat} {km : Int} {dc ic us : ByteArray} {w : World} {Q : Exit -> Act -> World -> Prop} {u1 u4 u11 u14 u19 u20 u21 u22 u23 u24 u25 u26 u27 : Value} {b2 : Nat} (W : World) (HP : ∀ (c : List PanicEntry) (a : Act) (d : Option Tmp) (v : Value) (x : World), Q (.panic c) (a.put d v) x -> Q (.panic c) a x) (hk : k < 256) (hr3 : r3 <= 2) (hds : ¬ 9223372036854775807 < 1 + dc.size) (Hdc : Hid (dc = decB k)) (Hic : Hid (ic = ⟨#[36]⟩ ++ dc)) (Hus : Hid (us = usr k)) (hI : Hid (DeI p w W bs m q none (some b2) none)) (HF : Hid (∀ b1 b2 B W', DeI p w W' bs m q (some b1) (some b2) (some B) -> Q .normal { tmps := #[.pointer (some ⟨p, 0, none⟩), u1, .pointer (some ⟨w.heap.size, 0, none⟩), .int .i64 (k : Int), .pointer (some ⟨B, 0, none⟩), .pointer (some ⟨p, 0, none⟩), .int .i64 (k : Int), .int .i64 (k : Int), .string dc, .string ic, .int .i64 (k : Int), .string us, .int .i64 (k : Int), .int .i64 km, .slice (some ⟨b1, 0, none⟩) 1 1, .slice (some ⟨b2, 0, none⟩) 2 2, .int .i64 (k : Int), .int .i64 (r3 : Int), .slice (some ⟨b2, 0, none⟩) r3 2, .agg #[.string ic, .string us, .string ⟨#[]⟩, .bool false, .string ⟨#[]⟩, .int .i64 km, .slice (some ⟨b1, 0, none⟩) 1 1, .slice (some ⟨b2, 0, none⟩) r3 2, .string ⟨#[]⟩, .slice none 0 0], u20, u21, u22, u23, u24, u25, u26, u27], defers := [] } (fil10 W' B (.string ic) (.string us) (.string ⟨#[]⟩) (.bool false) (.string ⟨#[]⟩) (.int .i64 km) (.slice (some ⟨b1, 0, none⟩) 1 1) (.slice (some ⟨b2, 0, none⟩) r3 2) (.string ⟨#[]⟩) (.slice none 0 0)))) :
  wpAnyH Tryd.prog .any (regO (tlN (Tryd.f12.body.getD .skip) 2)) Q (fun _ => True) 5 #[true, true, true, true, false, true, true, false, true, true, true, true, false, false, false] { tmps := #[.pointer (some ⟨p, 0, none⟩), u1, .pointer (some ⟨w.heap.size, 0, none⟩), .int .i64 (k : Int), u4, .pointer (some ⟨p, 0, none⟩), .int .i64 (k : Int), .int .i64 (k : Int), .string dc, .string ic, .int .i64 (k : Int), u11, .int .i64 (k : Int), .int .i64 km, u14, .slice (some ⟨b2, 0, none⟩) 2 2, .int .i64 (k : Int), .int .i64 (r3 : Int), .slice (some ⟨b2, 0, none⟩) r3 2, u19, u20, u21, u22, u23, u24, u25, u26, u27], defers := [] } W := by
 rw [show (regO (tlN (Tryd.f12.body.getD .skip) 2)) = List.toArray _ from rfl]
 refine wpAnyH_ready (rs := [4, 7, 13]) (by kernel_rfl) (by simp) ?_
 refine AllReadyH.cons rfl (fun K hK => ?_) (AllReadyH.cons rfl (fun K hK => ?_) (AllReadyH.cons rfl (fun K hK => ?_) AllReadyH.nil))
 ·go_simp
  go_at_call 28
  refine (userF k _ (by omega)).mono ?_
  rintro e w3 ⟨rfl, hb3⟩
  rw [<- Hus.out]
  try dsimp only
  refine hK.out _ _ trivial (fun _ => ?_)
  clear hK K
  try simp only [List.setIfInBounds_toArray, List.set_cons_zero, List.set_cons_succ]
  exact wpO rfl (by kernel_rfl) (deN2010 p _ HP hk hr3 hds Hdc Hic Hus (hI.out.below hb3) HF)
 ·go_simp
  refine hK.out _ _ trivial (fun _ => ?_)
  clear hK K
  try simp only [List.setIfInBounds_toArray, List.set_cons_zero, List.set_cons_succ]
  exact wpO rfl (by kernel_rfl) (deN1110 p _ HP hk hr3 hds Hdc Hic Hus (hI.out.allocA) HF)
 ·go_simp
  refine hK.out _ _ trivial (fun _ => ?_)
  clear hK K
  try simp only [List.setIfInBounds_toArray, List.set_cons_zero, List.set_cons_succ]
  exact wpO rfl (by kernel_rfl) (deN1011 p _ HP hk hr3 hds Hdc Hic Hus (hI.out.allocV) HF)
set_option maxRecDepth 100000 in
set_option maxHeartbeats 2000000 in
theorem deN1101 (p : Nat) {bs : Nat -> Nat} {m q k r3 : Nat} {km : Int} {dc ic us : ByteArray} {w : World} {Q : Exit -> Act -> World -> Prop} {u1 u11 u15 u18 u19 u20 u21 u22 u23 u24 u25 u26 u27 : Value} {b1 B : Nat} (W : World) (HP : ∀ (c : List PanicEntry) (a : Act) (d : Option Tmp) (v : Value) (x : World), Q (.panic c) (a.put d v) x -> Q (.panic c) a x) (hk : k < 256) (hr3 : r3 <= 2) (hds : ¬ 9223372036854775807 < 1 + dc.size) (Hdc : Hid (dc = decB k)) (Hic : Hid (ic = ⟨#[36]⟩ ++ dc)) (Hus : Hid (us = usr k)) (hI : Hid (DeI p w W bs m q (some b1) none (some B))) (HF : Hid (∀ b1 b2 B W', DeI p w W' bs m q (some b1) (some b2) (some B) -> Q .normal { tmps := #[.pointer (some ⟨p, 0, none⟩), u1, .pointer (some ⟨w.heap.size, 0, none⟩), .int .i64 (k : Int), .pointer (some ⟨B, 0, none⟩), .pointer (some ⟨p, 0, none⟩), .int .i64 (k : Int), .int .i64 (k : Int), .string dc, .string ic, .int .i64 (k : Int), .string us, .int .i64 (k : Int), .int .i64 km, .slice (some ⟨b1, 0, none⟩) 1 1, .slice (some ⟨b2, 0, none⟩) 2 2, .int .i64 (k : Int), .int .i64 (r3 : Int), .slice (some ⟨b2, 0, none⟩) r3 2, .agg #[.string ic, .string us, .string ⟨#[]⟩, .bool false, .string ⟨#[]⟩, .int .i64 km, .slice (some ⟨b1, 0, none⟩) 1 1, .slice (some ⟨b2, 0, none⟩) r3 2, .string ⟨#[]⟩, .slice none 0 0], u20, u21, u22, u23, u24, u25, u26, u27], defers := [] } (fil10 W' B (.string ic) (.string us) (.string ⟨#[]⟩) (.bool false) (.string ⟨#[]⟩) (.int .i64 km) (.slice (some ⟨b1, 0, none⟩) 1 1) (.slice (some ⟨b2, 0, none⟩) r3 2) (.string ⟨#[]⟩) (.slice none 0 0)))) :
  wpAnyH Tryd.prog .any (regO (tlN (Tryd.f12.body.getD .skip) 2)) Q (fun _ => True) 5 #[true, true, true, true, false, true, true, true, false, true, true, false, false, true, false] { tmps := #[.pointer (some ⟨p, 0, none⟩), u1, .pointer (some ⟨w.heap.size, 0, none⟩), .int .i64 (k : Int), .pointer (some ⟨B, 0, none⟩), .pointer (some ⟨p, 0, none⟩), .int .i64 (k : Int), .int .i64 (k : Int), .string dc, .string ic, .int .i64 (k : Int), u11, .int .i64 (k : Int), .int .i64 km, .slice (some ⟨b1, 0, none⟩) 1 1, u15, .int .i64 (k : Int), .int .i64 (r3 : Int), u18, u19, u20, u21, u22, u23, u24, u25, u26, u27], defers := [] } W := by
 rw [show (regO (tlN (Tryd.f12.body.getD .skip) 2)) = List.toArray _ from rfl]
 refine wpAnyH_ready (rs := [4, 8]) (by kernel_rfl) (by simp) ?_
 refine AllReadyH.cons rfl (fun K hK => ?_) (AllReadyH.cons rfl (fun K hK => ?_) AllReadyH.nil)
 ·go_simp
  go_at_call 28
  refine (userF k _ (by omega)).mono ?_
  rintro e w3 ⟨rfl, hb3⟩
  rw [<- Hus.out]
  try dsimp only
  refine hK.out _ _ trivial (fun _ => ?_)
  clear hK K
  try simp only [List.setIfInBounds_toArray, List.set_cons_zero, List.set_cons_succ]
  exact wpO rfl (by kernel_rfl) (deN2101 p _ HP hk hr3 hds Hdc Hic Hus (hI.out.below hb3) HF)
 ·have hr3i : (r3 : Int) <= 2 := by omega
  go_simp
  refine hK.out _ _ trivial (fun _ => ?_)
  clear hK K
  try simp only [List.setIfInBounds_toArray, List.set_cons_zero, List.set_cons_succ]
  refine wpAnyH_take (i := 11) (v := ?vm1) rfl (by kernel_rfl) (by kernel_rfl) (by kernel_rfl) (fun c _ _ h => HP c _ _ _ _ h) (Or.inl ⟨by rfl, ?hm1⟩) trivial ?_
  case hm1 => (intro w h; (try dsimp only at h); go_simp; try (with_reducible rfl))
  simp only [Act.put, si]
  exact wpO rfl (by kernel_rfl) (deN1111 p _ HP hk hr3 hds Hdc Hic Hus (hI.out.allocB) HF)
set_option maxRecDepth 100000 in
set_option maxHeartbeats 2000000 in
theorem deN2001 (p : Nat) {bs : Nat -> Nat} {m q k r3 : Nat} {km : Int} {dc ic us : ByteArray} {w : World} {Q : Exit -> Act -> World -> Prop} {u1 u14 u15 u18 u19 u20 u21 u22 u23 u24 u25 u26 u27 : Value} {B : Nat} (W : World) (HP : ∀ (c : List PanicEntry) (a : Act) (d : Option Tmp) (v : Value) (x : World), Q (.panic c) (a.put d v) x -> Q (.panic c) a x) (hk : k < 256) (hr3 : r3 <= 2) (hds : ¬ 9223372036854775807 < 1 + dc.size) (Hdc : Hid (dc = decB k)) (Hic : Hid (ic = ⟨#[36]⟩ ++ dc)) (Hus : Hid (us = usr k)) (hI : Hid (DeI p w W bs m q none none (some B))) (HF : Hid (∀ b1 b2 B W', DeI p w W' bs m q (some b1) (some b2) (some B) -> Q .normal { tmps := #[.pointer (some ⟨p, 0, none⟩), u1, .pointer (some ⟨w.heap.size, 0, none⟩), .int .i64 (k : Int), .pointer (some ⟨B, 0, none⟩), .pointer (some ⟨p, 0, none⟩), .int .i64 (k : Int), .int .i64 (k : Int), .string dc, .string ic, .int .i64 (k : Int), .string us, .int .i64 (k : Int), .int .i64 km, .slice (some ⟨b1, 0, none⟩) 1 1, .slice (some ⟨b2, 0, none⟩) 2 2, .int .i64 (k : Int), .int .i64 (r3 : Int), .slice (some ⟨b2, 0, none⟩) r3 2, .agg #[.string ic, .string us, .string ⟨#[]⟩, .bool false, .string ⟨#[]⟩, .int .i64 km, .slice (some ⟨b1, 0, none⟩) 1 1, .slice (some ⟨b2, 0, none⟩) r3 2, .string ⟨#[]⟩, .slice none 0 0], u20, u21, u22, u23, u24, u25, u26, u27], defers := [] } (fil10 W' B (.string ic) (.string us) (.string ⟨#[]⟩) (.bool false) (.string ⟨#[]⟩) (.int .i64 km) (.slice (some ⟨b1, 0, none⟩) 1 1) (.slice (some ⟨b2, 0, none⟩) r3 2) (.string ⟨#[]⟩) (.slice none 0 0)))) :
  wpAnyH Tryd.prog .any (regO (tlN (Tryd.f12.body.getD .skip) 2)) Q (fun _ => True) 5 #[true, true, true, true, true, true, true, false, false, true, true, false, false, true, false] { tmps := #[.pointer (some ⟨p, 0, none⟩), u1, .pointer (some ⟨w.heap.size, 0, none⟩), .int .i64 (k : Int), .pointer (some ⟨B, 0, none⟩), .pointer (some ⟨p, 0, none⟩), .int .i64 (k : Int), .int .i64 (k : Int), .string dc, .string ic, .int .i64 (k : Int), .string us, .int .i64 (k : Int), .int .i64 km, u14, u15, .int .i64 (k : Int), .int .i64 (r3 : Int), u18, u19, u20, u21, u22, u23, u24, u25, u26, u27], defers := [] } W := by
 rw [show (regO (tlN (Tryd.f12.body.getD .skip) 2)) = List.toArray _ from rfl]
 refine wpAnyH_ready (rs := [7, 8]) (by kernel_rfl) (by simp) ?_
 refine AllReadyH.cons rfl (fun K hK => ?_) (AllReadyH.cons rfl (fun K hK => ?_) AllReadyH.nil)
 ·go_simp
  refine hK.out _ _ trivial (fun _ => ?_)
  clear hK K
  try simp only [List.setIfInBounds_toArray, List.set_cons_zero, List.set_cons_succ]
  exact wpO rfl (by kernel_rfl) (deN2101 p _ HP hk hr3 hds Hdc Hic Hus (hI.out.allocA) HF)
 ·have hr3i : (r3 : Int) <= 2 := by omega
  go_simp
  refine hK.out _ _ trivial (fun _ => ?_)
  clear hK K
  try simp only [List.setIfInBounds_toArray, List.set_cons_zero, List.set_cons_succ]
  refine wpAnyH_take (i := 11) (v := ?vm1) rfl (by kernel_rfl) (by kernel_rfl) (by kernel_rfl) (fun c _ _ h => HP c _ _ _ _ h) (Or.inl ⟨by rfl, ?hm1⟩) trivial ?_
  case hm1 => (intro w h; (try dsimp only at h); go_simp; try (with_reducible rfl))
  simp only [Act.put, si]
  exact wpO rfl (by kernel_rfl) (deN2011 p _ HP hk hr3 hds Hdc Hic Hus (hI.out.allocB) HF)
set_option maxRecDepth 100000 in
set_option maxHeartbeats 2000000 in
theorem deN2100 (p : Nat) {bs : Nat -> Nat} {m q k r3 : Nat} {km : Int} {dc ic us : ByteArray} {w : World} {Q : Exit -> Act -> World -> Prop} {u1 u4 u15 u18 u19 u20 u21 u22 u23 u24 u25 u26 u27 : Value} {b1 : Nat} (W : World) (HP : ∀ (c : List PanicEntry) (a : Act) (d : Option Tmp) (v : Value) (x : World), Q (.panic c) (a.put d v) x -> Q (.panic c) a x) (hk : k < 256) (hr3 : r3 <= 2) (hds : ¬ 9223372036854775807 < 1 + dc.size) (Hdc : Hid (dc = decB k)) (Hic : Hid (ic = ⟨#[36]⟩ ++ dc)) (Hus : Hid (us = usr k)) (hI : Hid (DeI p w W bs m q (some b1) none none)) (HF : Hid (∀ b1 b2 B W', DeI p w W' bs m q (some b1) (some b2) (some B) -> Q .normal { tmps := #[.pointer (some ⟨p, 0, none⟩), u1, .pointer (some ⟨w.heap.size, 0, none⟩), .int .i64 (k : Int), .pointer (some ⟨B, 0, none⟩), .pointer (some ⟨p, 0, none⟩), .int .i64 (k : Int), .int .i64 (k : Int), .string dc, .string ic, .int .i64 (k : Int), .string us, .int .i64 (k : Int), .int .i64 km, .slice (some ⟨b1, 0, none⟩) 1 1, .slice (some ⟨b2, 0, none⟩) 2 2, .int .i64 (k : Int), .int .i64 (r3 : Int), .slice (some ⟨b2, 0, none⟩) r3 2, .agg #[.string ic, .string us, .string ⟨#[]⟩, .bool false, .string ⟨#[]⟩, .int .i64 km, .slice (some ⟨b1, 0, none⟩) 1 1, .slice (some ⟨b2, 0, none⟩) r3 2, .string ⟨#[]⟩, .slice none 0 0], u20, u21, u22, u23, u24, u25, u26, u27], defers := [] } (fil10 W' B (.string ic) (.string us) (.string ⟨#[]⟩) (.bool false) (.string ⟨#[]⟩) (.int .i64 km) (.slice (some ⟨b1, 0, none⟩) 1 1) (.slice (some ⟨b2, 0, none⟩) r3 2) (.string ⟨#[]⟩) (.slice none 0 0)))) :
  wpAnyH Tryd.prog .any (regO (tlN (Tryd.f12.body.getD .skip) 2)) Q (fun _ => True) 5 #[true, true, true, true, true, true, true, true, false, true, true, false, false, false, false] { tmps := #[.pointer (some ⟨p, 0, none⟩), u1, .pointer (some ⟨w.heap.size, 0, none⟩), .int .i64 (k : Int), u4, .pointer (some ⟨p, 0, none⟩), .int .i64 (k : Int), .int .i64 (k : Int), .string dc, .string ic, .int .i64 (k : Int), .string us, .int .i64 (k : Int), .int .i64 km, .slice (some ⟨b1, 0, none⟩) 1 1, u15, .int .i64 (k : Int), .int .i64 (r3 : Int), u18, u19, u20, u21, u22, u23, u24, u25, u26, u27], defers := [] } W := by
 rw [show (regO (tlN (Tryd.f12.body.getD .skip) 2)) = List.toArray _ from rfl]
 refine wpAnyH_ready (rs := [8, 13]) (by kernel_rfl) (by simp) ?_
 refine AllReadyH.cons rfl (fun K hK => ?_) (AllReadyH.cons rfl (fun K hK => ?_) AllReadyH.nil)
 ·have hr3i : (r3 : Int) <= 2 := by omega
  go_simp
  refine hK.out _ _ trivial (fun _ => ?_)
  clear hK K
  try simp only [List.setIfInBounds_toArray, List.set_cons_zero, List.set_cons_succ]
  refine wpAnyH_take (i := 11) (v := ?vm1) rfl (by kernel_rfl) (by kernel_rfl) (by kernel_rfl) (fun c _ _ h => HP c _ _ _ _ h) (Or.inl ⟨by rfl, ?hm1⟩) trivial ?_
  case hm1 => (intro w h; (try dsimp only at h); go_simp; try (with_reducible rfl))
  simp only [Act.put, si]
  refine wpAnyH_take (i := 12) (v := ?vm2) rfl (by kernel_rfl) (by kernel_rfl) (by kernel_rfl) (fun c _ _ h => HP c _ _ _ _ h) (Or.inl ⟨by rfl, ?hm2⟩) trivial ?_
  case hm2 => (intro w h; (try dsimp only at h); go_simp; try (with_reducible rfl))
  simp only [Act.put, si]
  exact wpO rfl (by kernel_rfl) (deN2110 p _ HP hk hr3 hds Hdc Hic Hus (hI.out.allocB) HF)
 ·go_simp
  refine hK.out _ _ trivial (fun _ => ?_)
  clear hK K
  try simp only [List.setIfInBounds_toArray, List.set_cons_zero, List.set_cons_succ]
  exact wpO rfl (by kernel_rfl) (deN2101 p _ HP hk hr3 hds Hdc Hic Hus (hI.out.allocV) HF)
set_option maxRecDepth 100000 in
set_option maxHeartbeats 2000000 in
theorem deN0011 (p : Nat) {bs : Nat -> Nat} {m q k r3 : Nat} {km : Int} {dc ic us : ByteArray} {w : World} {Q : Exit -> Act -> World -> Prop} {u1 u8 u9 u11 u14 u19 u20 u21 u22 u23 u24 u25 u26 u27 : Value} {b2 B : Nat} (W : World) (HP : ∀ (c : List PanicEntry) (a : Act) (d : Option Tmp) (v : Value) (x : World), Q (.panic c) (a.put d v) x -> Q (.panic c) a x) (hk : k < 256) (hr3 : r3 <= 2) (hds : ¬ 9223372036854775807 < 1 + dc.size) (Hdc : Hid (dc = decB k)) (Hic : Hid (ic = ⟨#[36]⟩ ++ dc)) (Hus : Hid (us = usr k)) (hI : Hid (DeI p w W bs m q none (some b2) (some B))) (HF : Hid (∀ b1 b2 B W', DeI p w W' bs m q (some b1) (some b2) (some B) -> Q .normal { tmps := #[.pointer (some ⟨p, 0, none⟩), u1, .pointer (some ⟨w.heap.size, 0, none⟩), .int .i64 (k : Int), .pointer (some ⟨B, 0, none⟩), .pointer (some ⟨p, 0, none⟩), .int .i64 (k : Int), .int .i64 (k : Int), .string dc, .string ic, .int .i64 (k : Int), .string us, .int .i64 (k : Int), .int .i64 km, .slice (some ⟨b1, 0, none⟩) 1 1, .slice (some ⟨b2, 0, none⟩) 2 2, .int .i64 (k : Int), .int .i64 (r3 : Int), .slice (some ⟨b2, 0, none⟩) r3 2, .agg #[.string ic, .string us, .string ⟨#[]⟩, .bool false, .string ⟨#[]⟩, .int .i64 km, .slice (some ⟨b1, 0, none⟩) 1 1, .slice (some ⟨b2, 0, none⟩) r3 2, .string ⟨#[]⟩, .slice none 0 0], u20, u21, u22, u23, u24, u25, u26, u27], defers := [] } (fil10 W' B (.string ic) (.string us) (.string ⟨#[]⟩) (.bool false) (.string ⟨#[]⟩) (.int .i64 km) (.slice (some ⟨b1, 0, none⟩) 1 1) (.slice (some ⟨b2, 0, none⟩) r3 2) (.string ⟨#[]⟩) (.slice none 0 0)))) :
  wpAnyH Tryd.prog .any (regO (tlN (Tryd.f12.body.getD .skip) 2)) Q (fun _ => True) 6 #[true, false, false, true, false, true, true, false, true, true, true, true, false, true, false] { tmps := #[.pointer (some ⟨p, 0, none⟩), u1, .pointer (some ⟨w.heap.size, 0, none⟩), .int .i64 (k : Int), .pointer (some ⟨B, 0, none⟩), .pointer (some ⟨p, 0, none⟩), .int .i64 (k : Int), .int .i64 (k : Int), u8, u9, .int .i64 (k : Int), u11, .int .i64 (k : Int), .int .i64 km, u14, .slice (some ⟨b2, 0, none⟩) 2 2, .int .i64 (k : Int), .int .i64 (r3 : Int), .slice (some ⟨b2, 0, none⟩) r3 2, u19, u20, u21, u22, u23, u24, u25, u26, u27], defers := [] } W := by
 rw [show (regO (tlN (Tryd.f12.body.getD .skip) 2)) = List.toArray _ from rfl]
 refine wpAnyH_ready (rs := [1, 7]) (by kernel_rfl) (by simp) ?_
 refine AllReadyH.cons rfl (fun K hK => ?_) (AllReadyH.cons rfl (fun K hK => ?_) AllReadyH.nil)
 ·go_simp
  go_at_call 27
  refine (decF k (by omega) _).mono ?_
  rintro e w3 ⟨rfl, hb3⟩
  rw [<- Hdc.out]
  try dsimp only
  refine hK.out _ _ trivial (fun _ => ?_)
  clear hK K
  try simp only [List.setIfInBounds_toArray, List.set_cons_zero, List.set_cons_succ]
  refine wpAnyH_take (i := 2) (v := (.string ic)) rfl (by kernel_rfl) (by kernel_rfl) (by kernel_rfl) (fun c _ _ h => HP c _ _ _ _ h) (Or.inl ⟨by rfl, ?hm1⟩) trivial ?_
  case hm1 => (intro w h; (try dsimp only at h); go_simp; (try rw [Hic.out]))
  simp only [Act.put, si]
  exact wpO rfl (by kernel_rfl) (deN1011 p _ HP hk hr3 hds Hdc Hic Hus (hI.out.below hb3) HF)
 ·go_simp
  refine hK.out _ _ trivial (fun _ => ?_)
  clear hK K
  try simp only [List.setIfInBounds_toArray, List.set_cons_zero, List.set_cons_succ]
  exact wpO rfl (by kernel_rfl) (deN0111 p _ HP hk hr3 hds Hdc Hic Hus (hI.out.allocA) HF)
set_option maxRecDepth 100000 in
set_option maxHeartbeats 2000000 in
theorem deN0110 (p : Nat) {bs : Nat -> Nat} {m q k r3 : Nat} {km : Int} {dc ic us : ByteArray} {w : World} {Q : Exit -> Act -> World -> Prop} {u1 u4 u8 u9 u11 u19 u20 u21 u22 u23 u24 u25 u26 u27 : Value} {b1 b2 : Nat} (W : World) (HP : ∀ (c : List PanicEntry) (a : Act) (d : Option Tmp) (v : Value) (x : World), Q (.panic c) (a.put d v) x -> Q (.panic c) a x) (hk : k < 256) (hr3 : r3 <= 2) (hds : ¬ 9223372036854775807 < 1 + dc.size) (Hdc : Hid (dc = decB k)) (Hic : Hid (ic = ⟨#[36]⟩ ++ dc)) (Hus : Hid (us = usr k)) (hI : Hid (DeI p w W bs m q (some b1) (some b2) none)) (HF : Hid (∀ b1 b2 B W', DeI p w W' bs m q (some b1) (some b2) (some B) -> Q .normal { tmps := #[.pointer (some ⟨p, 0, none⟩), u1, .pointer (some ⟨w.heap.size, 0, none⟩), .int .i64 (k : Int), .pointer (some ⟨B, 0, none⟩), .pointer (some ⟨p, 0, none⟩), .int .i64 (k : Int), .int .i64 (k : Int), .string dc, .string ic, .int .i64 (k : Int), .string us, .int .i64 (k : Int), .int .i64 km, .slice (some ⟨b1, 0, none⟩) 1 1, .slice (some ⟨b2, 0, none⟩) 2 2, .int .i64 (k : Int), .int .i64 (r3 : Int), .slice (some ⟨b2, 0, none⟩) r3 2, .agg #[.string ic, .string us, .string ⟨#[]⟩, .bool false, .string ⟨#[]⟩, .int .i64 km, .slice (some ⟨b1, 0, none⟩) 1 1, .slice (some ⟨b2, 0, none⟩) r3 2, .string ⟨#[]⟩, .slice none 0 0], u20, u21, u22, u23, u24, u25, u26, u27], defers := [] } (fil10 W' B (.string ic) (.string us) (.string ⟨#[]⟩) (.bool false) (.string ⟨#[]⟩) (.int .i64 km) (.slice (some ⟨b1, 0, none⟩) 1 1) (.slice (some ⟨b2, 0, none⟩) r3 2) (.string ⟨#[]⟩) (.slice none 0 0)))) :
  wpAnyH Tryd.prog .any (regO (tlN (Tryd.f12.body.getD .skip) 2)) Q (fun _ => True) 6 #[true, false, false, true, false, true, true, true, true, true, true, true, false, false, false] { tmps := #[.pointer (some ⟨p, 0, none⟩), u1, .pointer (some ⟨w.heap.size, 0, none⟩), .int .i64 (k : Int), u4, .pointer (some ⟨p, 0, none⟩), .int .i64 (k : Int), .int .i64 (k : Int), u8, u9, .int .i64 (k : Int), u11, .int .i64 (k : Int), .int .i64 km, .slice (some ⟨b1, 0, none⟩) 1 1, .slice (some ⟨b2, 0, none⟩) 2 2, .int .i64 (k : Int), .int .i64 (r3 : Int), .slice (some ⟨b2, 0, none⟩) r3 2, u19, u20, u21, u22, u23, u24, u25, u26, u27], defers := [] } W := by
 rw [show (regO (tlN (Tryd.f12.body.getD .skip) 2)) = List.toArray _ from rfl]
 refine wpAnyH_ready (rs := [1, 13]) (by kernel_rfl) (by simp) ?_
 refine AllReadyH.cons rfl (fun K hK => ?_) (AllReadyH.cons rfl (fun K hK => ?_) AllReadyH.nil)
 ·go_simp
  go_at_call 27
  refine (decF k (by omega) _).mono ?_
  rintro e w3 ⟨rfl, hb3⟩
  rw [<- Hdc.out]
  try dsimp only
  refine hK.out _ _ trivial (fun _ => ?_)
  clear hK K
  try simp only [List.setIfInBounds_toArray, List.set_cons_zero, List.set_cons_succ]
  refine wpAnyH_take (i := 2) (v := (.string ic)) rfl (by kernel_rfl) (by kernel_rfl) (by kernel_rfl) (fun c _ _ h => HP c _ _ _ _ h) (Or.inl ⟨by rfl, ?hm1⟩) trivial ?_
  case hm1 => (intro w h; (try dsimp only at h); go_simp; (try rw [Hic.out]))
  simp only [Act.put, si]
  exact wpO rfl (by kernel_rfl) (deN1110 p _ HP hk hr3 hds Hdc Hic Hus (hI.out.below hb3) HF)
 ·go_simp
  refine hK.out _ _ trivial (fun _ => ?_)
  clear hK K
  try simp only [List.setIfInBounds_toArray, List.set_cons_zero, List.set_cons_succ]
  exact wpO rfl (by kernel_rfl) (deN0111 p _ HP hk hr3 hds Hdc Hic Hus (hI.out.allocV) HF)
set_option maxRecDepth 100000 in
set_option maxHeartbeats 2000000 in
theorem deN1001 (p : Nat) {bs : Nat -> Nat} {m q k r3 : Nat} {km : Int} {dc ic us : ByteArray} {w : World} {Q : Exit -> Act -> World -> Prop} {u1 u11 u14 u15 u18 u19 u20 u21 u22 u23 u24 u25 u26 u27 : Value} {B : Nat} (W : World) (HP : ∀ (c : List PanicEntry) (a : Act) (d : Option Tmp) (v : Value) (x : World), Q (.panic c) (a.put d v) x -> Q (.panic c) a x) (hk : k < 256) (hr3 : r3 <= 2) (hds : ¬ 9223372036854775807 < 1 + dc.size) (Hdc : Hid (dc = decB k)) (Hic : Hid (ic = ⟨#[36]⟩ ++ dc)) (Hus : Hid (us = usr k)) (hI : Hid (DeI p w W bs m q none none (some B))) (HF : Hid (∀ b1 b2 B W', DeI p w W' bs m q (some b1) (some b2) (some B) -> Q .normal { tmps := #[.pointer (some ⟨p, 0, none⟩), u1, .pointer (some ⟨w.heap.size, 0, none⟩), .int .i64 (k : Int), .pointer (some ⟨B, 0, none⟩), .pointer (some ⟨p, 0, none⟩), .int .i64 (k : Int), .int .i64 (k : Int), .string dc, .string ic, .int .i64 (k : Int), .string us, .int .i64 (k : Int), .int .i64 km, .slice (some ⟨b1, 0, none⟩) 1 1, .slice (some ⟨b2, 0, none⟩) 2 2, .int .i64 (k : Int), .int .i64 (r3 : Int), .slice (some ⟨b2, 0, none⟩) r3 2, .agg #[.string ic, .string us, .string ⟨#[]⟩, .bool false, .string ⟨#[]⟩, .int .i64 km, .slice (some ⟨b1, 0, none⟩) 1 1, .slice (some ⟨b2, 0, none⟩) r3 2, .string ⟨#[]⟩, .slice none 0 0], u20, u21, u22, u23, u24, u25, u26, u27], defers := [] } (fil10 W' B (.string ic) (.string us) (.string ⟨#[]⟩) (.bool false) (.string ⟨#[]⟩) (.int .i64 km) (.slice (some ⟨b1, 0, none⟩) 1 1) (.slice (some ⟨b2, 0, none⟩) r3 2) (.string ⟨#[]⟩) (.slice none 0 0)))) :
  wpAnyH Tryd.prog .any (regO (tlN (Tryd.f12.body.getD .skip) 2)) Q (fun _ => True) 6 #[true, true, true, true, false, true, true, false, false, true, true, false, false, true, false] { tmps := #[.pointer (some ⟨p, 0, none⟩), u1, .pointer (some ⟨w.heap.size, 0, none⟩), .int .i64 (k : Int), .pointer (some ⟨B, 0, none⟩), .pointer (some ⟨p, 0, none⟩), .int .i64 (k : Int), .int .i64 (k : Int), .string dc, .string ic, .int .i64 (k : Int), u11, .int .i64 (k : Int), .int .i64 km, u14, u15, .int .i64 (k : Int), .int .i64 (r3 : Int), u18, u19, u20, u21, u22, u23, u24, u25, u26, u27], defers := [] } W := by
 rw [show (regO (tlN (Tryd.f12.body.getD .skip) 2)) = List.toArray _ from rfl]
 refine wpAnyH_ready (rs := [4, 7, 8]) (by kernel_rfl) (by simp) ?_
 refine AllReadyH.cons rfl (fun K hK => ?_) (AllReadyH.cons rfl (fun K hK => ?_) (AllReadyH.cons rfl (fun K hK => ?_) AllReadyH.nil))
 ·go_simp
  go_at_call 28
  refine (userF k _ (by omega)).mono ?_
  rintro e w3 ⟨rfl, hb3⟩
  rw [<- Hus.out]
  try dsimp only
  refine hK.out _ _ trivial (fun _ => ?_)
  clear hK K
  try simp only [List.setIfInBounds_toArray, List.set_cons_zero, List.set_cons_succ]
  exact wpO rfl (by kernel_rfl) (deN2001 p _ HP hk hr3 hds Hdc Hic Hus (hI.out.below hb3) HF)
 ·go_simp
  refine hK.out _ _ trivial (fun _ => ?_)
  clear hK K
  try simp only [List.setIfInBounds_toArray, List.set_cons_zero, List.set_cons_succ]
  exact wpO rfl (by kernel_rfl) (deN1101 p _ HP hk hr3 hds Hdc Hic Hus (hI.out.allocA) HF)
 ·have hr3i : (r3 : Int) <= 2 := by omega
  go_simp
  refine hK.out _ _ trivial (fun _ => ?_)
  clear hK K
  try simp only [List.setIfInBounds_toArray, List.set_cons_zero, List.set_cons_succ]
  refine wpAnyH_take (i := 11) (v := ?vm1) rfl (by kernel_rfl) (by kernel_rfl) (by kernel_rfl) (fun c _ _ h => HP c _ _ _ _ h) (Or.inl ⟨by rfl, ?hm1⟩) trivial ?_
  case hm1 => (intro w h; (try dsimp only at h); go_simp; try (with_reducible rfl))
  simp only [Act.put, si]
  exact wpO rfl (by kernel_rfl) (deN1011 p _ HP hk hr3 hds Hdc Hic Hus (hI.out.allocB) HF)
set_option maxRecDepth 100000 in
set_option maxHeartbeats 2000000 in
theorem deN1100 (p : Nat) {bs : Nat -> Nat} {m q k r3 : Nat} {km : Int} {dc ic us : ByteArray} {w : World} {Q : Exit -> Act -> World -> Prop} {u1 u4 u11 u15 u18 u19 u20 u21 u22 u23 u24 u25 u26 u27 : Value} {b1 : Nat} (W : World) (HP : ∀ (c : List PanicEntry) (a : Act) (d : Option Tmp) (v : Value) (x : World), Q (.panic c) (a.put d v) x -> Q (.panic c) a x) (hk : k < 256) (hr3 : r3 <= 2) (hds : ¬ 9223372036854775807 < 1 + dc.size) (Hdc : Hid (dc = decB k)) (Hic : Hid (ic = ⟨#[36]⟩ ++ dc)) (Hus : Hid (us = usr k)) (hI : Hid (DeI p w W bs m q (some b1) none none)) (HF : Hid (∀ b1 b2 B W', DeI p w W' bs m q (some b1) (some b2) (some B) -> Q .normal { tmps := #[.pointer (some ⟨p, 0, none⟩), u1, .pointer (some ⟨w.heap.size, 0, none⟩), .int .i64 (k : Int), .pointer (some ⟨B, 0, none⟩), .pointer (some ⟨p, 0, none⟩), .int .i64 (k : Int), .int .i64 (k : Int), .string dc, .string ic, .int .i64 (k : Int), .string us, .int .i64 (k : Int), .int .i64 km, .slice (some ⟨b1, 0, none⟩) 1 1, .slice (some ⟨b2, 0, none⟩) 2 2, .int .i64 (k : Int), .int .i64 (r3 : Int), .slice (some ⟨b2, 0, none⟩) r3 2, .agg #[.string ic, .string us, .string ⟨#[]⟩, .bool false, .string ⟨#[]⟩, .int .i64 km, .slice (some ⟨b1, 0, none⟩) 1 1, .slice (some ⟨b2, 0, none⟩) r3 2, .string ⟨#[]⟩, .slice none 0 0], u20, u21, u22, u23, u24, u25, u26, u27], defers := [] } (fil10 W' B (.string ic) (.string us) (.string ⟨#[]⟩) (.bool false) (.string ⟨#[]⟩) (.int .i64 km) (.slice (some ⟨b1, 0, none⟩) 1 1) (.slice (some ⟨b2, 0, none⟩) r3 2) (.string ⟨#[]⟩) (.slice none 0 0)))) :
  wpAnyH Tryd.prog .any (regO (tlN (Tryd.f12.body.getD .skip) 2)) Q (fun _ => True) 6 #[true, true, true, true, false, true, true, true, false, true, true, false, false, false, false] { tmps := #[.pointer (some ⟨p, 0, none⟩), u1, .pointer (some ⟨w.heap.size, 0, none⟩), .int .i64 (k : Int), u4, .pointer (some ⟨p, 0, none⟩), .int .i64 (k : Int), .int .i64 (k : Int), .string dc, .string ic, .int .i64 (k : Int), u11, .int .i64 (k : Int), .int .i64 km, .slice (some ⟨b1, 0, none⟩) 1 1, u15, .int .i64 (k : Int), .int .i64 (r3 : Int), u18, u19, u20, u21, u22, u23, u24, u25, u26, u27], defers := [] } W := by
 rw [show (regO (tlN (Tryd.f12.body.getD .skip) 2)) = List.toArray _ from rfl]
 refine wpAnyH_ready (rs := [4, 8, 13]) (by kernel_rfl) (by simp) ?_
 refine AllReadyH.cons rfl (fun K hK => ?_) (AllReadyH.cons rfl (fun K hK => ?_) (AllReadyH.cons rfl (fun K hK => ?_) AllReadyH.nil))
 ·go_simp
  go_at_call 28
  refine (userF k _ (by omega)).mono ?_
  rintro e w3 ⟨rfl, hb3⟩
  rw [<- Hus.out]
  try dsimp only
  refine hK.out _ _ trivial (fun _ => ?_)
  clear hK K
  try simp only [List.setIfInBounds_toArray, List.set_cons_zero, List.set_cons_succ]
  exact wpO rfl (by kernel_rfl) (deN2100 p _ HP hk hr3 hds Hdc Hic Hus (hI.out.below hb3) HF)
 ·have hr3i : (r3 : Int) <= 2 := by omega
  go_simp
  refine hK.out _ _ trivial (fun _ => ?_)
  clear hK K
  try simp only [List.setIfInBounds_toArray, List.set_cons_zero, List.set_cons_succ]
  refine wpAnyH_take (i := 11) (v := ?vm1) rfl (by kernel_rfl) (by kernel_rfl) (by kernel_rfl) (fun c _ _ h => HP c _ _ _ _ h) (Or.inl ⟨by rfl, ?hm1⟩) trivial ?_
  case hm1 => (intro w h; (try dsimp only at h); go_simp; try (with_reducible rfl))
  simp only [Act.put, si]
  exact wpO rfl (by kernel_rfl) (deN1110 p _ HP hk hr3 hds Hdc Hic Hus (hI.out.allocB) HF)
 ·go_simp
  refine hK.out _ _ trivial (fun _ => ?_)
  clear hK K
  try simp only [List.setIfInBounds_toArray, List.set_cons_zero, List.set_cons_succ]
  exact wpO rfl (by kernel_rfl) (deN1101 p _ HP hk hr3 hds Hdc Hic Hus (hI.out.allocV) HF)
set_option maxRecDepth 100000 in
set_option maxHeartbeats 2000000 in
theorem deN2000 (p : Nat) {bs : Nat -> Nat} {m q k r3 : Nat} {km : Int} {dc ic us : ByteArray} {w : World} {Q : Exit -> Act -> World -> Prop} {u1 u4 u14 u15 u18 u19 u20 u21 u22 u23 u24 u25 u26 u27 : Value} (W : World) (HP : ∀ (c : List PanicEntry) (a : Act) (d : Option Tmp) (v : Value) (x : World), Q (.panic c) (a.put d v) x -> Q (.panic c) a x) (hk : k < 256) (hr3 : r3 <= 2) (hds : ¬ 9223372036854775807 < 1 + dc.size) (Hdc : Hid (dc = decB k)) (Hic : Hid (ic = ⟨#[36]⟩ ++ dc)) (Hus : Hid (us = usr k)) (hI : Hid (DeI p w W bs m q none none none)) (HF : Hid (∀ b1 b2 B W', DeI p w W' bs m q (some b1) (some b2) (some B) -> Q .normal { tmps := #[.pointer (some ⟨p, 0, none⟩), u1, .pointer (some ⟨w.heap.size, 0, none⟩), .int .i64 (k : Int), .pointer (some ⟨B, 0, none⟩), .pointer (some ⟨p, 0, none⟩), .int .i64 (k : Int), .int .i64 (k : Int), .string dc, .string ic, .int .i64 (k : Int), .string us, .int .i64 (k : Int), .int .i64 km, .slice (some ⟨b1, 0, none⟩) 1 1, .slice (some ⟨b2, 0, none⟩) 2 2, .int .i64 (k : Int), .int .i64 (r3 : Int), .slice (some ⟨b2, 0, none⟩) r3 2, .agg #[.string ic, .string us, .string ⟨#[]⟩, .bool false, .string ⟨#[]⟩, .int .i64 km, .slice (some ⟨b1, 0, none⟩) 1 1, .slice (some ⟨b2, 0, none⟩) r3 2, .string ⟨#[]⟩, .slice none 0 0], u20, u21, u22, u23, u24, u25, u26, u27], defers := [] } (fil10 W' B (.string ic) (.string us) (.string ⟨#[]⟩) (.bool false) (.string ⟨#[]⟩) (.int .i64 km) (.slice (some ⟨b1, 0, none⟩) 1 1) (.slice (some ⟨b2, 0, none⟩) r3 2) (.string ⟨#[]⟩) (.slice none 0 0)))) :
  wpAnyH Tryd.prog .any (regO (tlN (Tryd.f12.body.getD .skip) 2)) Q (fun _ => True) 6 #[true, true, true, true, true, true, true, false, false, true, true, false, false, false, false] { tmps := #[.pointer (some ⟨p, 0, none⟩), u1, .pointer (some ⟨w.heap.size, 0, none⟩), .int .i64 (k : Int), u4, .pointer (some ⟨p, 0, none⟩), .int .i64 (k : Int), .int .i64 (k : Int), .string dc, .string ic, .int .i64 (k : Int), .string us, .int .i64 (k : Int), .int .i64 km, u14, u15, .int .i64 (k : Int), .int .i64 (r3 : Int), u18, u19, u20, u21, u22, u23, u24, u25, u26, u27], defers := [] } W := by
 rw [show (regO (tlN (Tryd.f12.body.getD .skip) 2)) = List.toArray _ from rfl]
 refine wpAnyH_ready (rs := [7, 8, 13]) (by kernel_rfl) (by simp) ?_
 refine AllReadyH.cons rfl (fun K hK => ?_) (AllReadyH.cons rfl (fun K hK => ?_) (AllReadyH.cons rfl (fun K hK => ?_) AllReadyH.nil))
 ·go_simp
  refine hK.out _ _ trivial (fun _ => ?_)
  clear hK K
  try simp only [List.setIfInBounds_toArray, List.set_cons_zero, List.set_cons_succ]
  exact wpO rfl (by kernel_rfl) (deN2100 p _ HP hk hr3 hds Hdc Hic Hus (hI.out.allocA) HF)
 ·have hr3i : (r3 : Int) <= 2 := by omega
  go_simp
  refine hK.out _ _ trivial (fun _ => ?_)
  clear hK K
  try simp only [List.setIfInBounds_toArray, List.set_cons_zero, List.set_cons_succ]
  refine wpAnyH_take (i := 11) (v := ?vm1) rfl (by kernel_rfl) (by kernel_rfl) (by kernel_rfl) (fun c _ _ h => HP c _ _ _ _ h) (Or.inl ⟨by rfl, ?hm1⟩) trivial ?_
  case hm1 => (intro w h; (try dsimp only at h); go_simp; try (with_reducible rfl))
  simp only [Act.put, si]
  exact wpO rfl (by kernel_rfl) (deN2010 p _ HP hk hr3 hds Hdc Hic Hus (hI.out.allocB) HF)
 ·go_simp
  refine hK.out _ _ trivial (fun _ => ?_)
  clear hK K
  try simp only [List.setIfInBounds_toArray, List.set_cons_zero, List.set_cons_succ]
  exact wpO rfl (by kernel_rfl) (deN2001 p _ HP hk hr3 hds Hdc Hic Hus (hI.out.allocV) HF)
set_option maxRecDepth 100000 in
set_option maxHeartbeats 2000000 in
theorem deN0010 (p : Nat) {bs : Nat -> Nat} {m q k r3 : Nat} {km : Int} {dc ic us : ByteArray} {w : World} {Q : Exit -> Act -> World -> Prop} {u1 u4 u8 u9 u11 u14 u19 u20 u21 u22 u23 u24 u25 u26 u27 : Value} {b2 : Nat} (W : World) (HP : ∀ (c : List PanicEntry) (a : Act) (d : Option Tmp) (v : Value) (x : World), Q (.panic c) (a.put d v) x -> Q (.panic c) a x) (hk : k < 256) (hr3 : r3 <= 2) (hds : ¬ 9223372036854775807 < 1 + dc.size) (Hdc : Hid (dc = decB k)) (Hic : Hid (ic = ⟨#[36]⟩ ++ dc)) (Hus : Hid (us = usr k)) (hI : Hid (DeI p w W bs m q none (some b2) none)) (HF : Hid (∀ b1 b2 B W', DeI p w W' bs m q (some b1) (some b2) (some B) -> Q .normal { tmps := #[.pointer (some ⟨p, 0, none⟩), u1, .pointer (some ⟨w.heap.size, 0, none⟩), .int .i64 (k : Int), .pointer (some ⟨B, 0, none⟩), .pointer (some ⟨p, 0, none⟩), .int .i64 (k : Int), .int .i64 (k : Int), .string dc, .string ic, .int .i64 (k : Int), .string us, .int .i64 (k : Int), .int .i64 km, .slice (some ⟨b1, 0, none⟩) 1 1, .slice (some ⟨b2, 0, none⟩) 2 2, .int .i64 (k : Int), .int .i64 (r3 : Int), .slice (some ⟨b2, 0, none⟩) r3 2, .agg #[.string ic, .string us, .string ⟨#[]⟩, .bool false, .string ⟨#[]⟩, .int .i64 km, .slice (some ⟨b1, 0, none⟩) 1 1, .slice (some ⟨b2, 0, none⟩) r3 2, .string ⟨#[]⟩, .slice none 0 0], u20, u21, u22, u23, u24, u25, u26, u27], defers := [] } (fil10 W' B (.string ic) (.string us) (.string ⟨#[]⟩) (.bool false) (.string ⟨#[]⟩) (.int .i64 km) (.slice (some ⟨b1, 0, none⟩) 1 1) (.slice (some ⟨b2, 0, none⟩) r3 2) (.string ⟨#[]⟩) (.slice none 0 0)))) :
  wpAnyH Tryd.prog .any (regO (tlN (Tryd.f12.body.getD .skip) 2)) Q (fun _ => True) 7 #[true, false, false, true, false, true, true, false, true, true, true, true, false, false, false] { tmps := #[.pointer (some ⟨p, 0, none⟩), u1, .pointer (some ⟨w.heap.size, 0, none⟩), .int .i64 (k : Int), u4, .pointer (some ⟨p, 0, none⟩), .int .i64 (k : Int), .int .i64 (k : Int), u8, u9, .int .i64 (k : Int), u11, .int .i64 (k : Int), .int .i64 km, u14, .slice (some ⟨b2, 0, none⟩) 2 2, .int .i64 (k : Int), .int .i64 (r3 : Int), .slice (some ⟨b2, 0, none⟩) r3 2, u19, u20, u21, u22, u23, u24, u25, u26, u27], defers := [] } W := by
 rw [show (regO (tlN (Tryd.f12.body.getD .skip) 2)) = List.toArray _ from rfl]
 refine wpAnyH_ready (rs := [1, 7, 13]) (by kernel_rfl) (by simp) ?_
 refine AllReadyH.cons rfl (fun K hK => ?_) (AllReadyH.cons rfl (fun K hK => ?_) (AllReadyH.cons rfl (fun K hK => ?_) AllReadyH.nil))
 ·go_simp
  go_at_call 27
  refine (decF k (by omega) _).mono ?_
  rintro e w3 ⟨rfl, hb3⟩
  rw [<- Hdc.out]
  try dsimp only
  refine hK.out _ _ trivial (fun _ => ?_)
  clear hK K
  try simp only [List.setIfInBounds_toArray, List.set_cons_zero, List.set_cons_succ]
  refine wpAnyH_take (i := 2) (v := (.string ic)) rfl (by kernel_rfl) (by kernel_rfl) (by kernel_rfl) (fun c _ _ h => HP c _ _ _ _ h) (Or.inl ⟨by rfl, ?hm1⟩) trivial ?_
  case hm1 => (intro w h; (try dsimp only at h); go_simp; (try rw [Hic.out]))
  simp only [Act.put, si]
  exact wpO rfl (by kernel_rfl) (deN1010 p _ HP hk hr3 hds Hdc Hic Hus (hI.out.below hb3) HF)
 ·go_simp
  refine hK.out _ _ trivial (fun _ => ?_)
  clear hK K
  try simp only [List.setIfInBounds_toArray, List.set_cons_zero, List.set_cons_succ]
  exact wpO rfl (by kernel_rfl) (deN0110 p _ HP hk hr3 hds Hdc Hic Hus (hI.out.allocA) HF)
 ·go_simp
  refine hK.out _ _ trivial (fun _ => ?_)
  clear hK K
  try simp only [List.setIfInBounds_toArray, List.set_cons_zero, List.set_cons_succ]
  exact wpO rfl (by kernel_rfl) (deN0011 p _ HP hk hr3 hds Hdc Hic Hus (hI.out.allocV) HF)
set_option maxRecDepth 100000 in
set_option maxHeartbeats 2000000 in
theorem deN0101 (p : Nat) {bs : Nat -> Nat} {m q k r3 : Nat} {km : Int} {dc ic us : ByteArray} {w : World} {Q : Exit -> Act -> World -> Prop} {u1 u8 u9 u11 u15 u18 u19 u20 u21 u22 u23 u24 u25 u26 u27 : Value} {b1 B : Nat} (W : World) (HP : ∀ (c : List PanicEntry) (a : Act) (d : Option Tmp) (v : Value) (x : World), Q (.panic c) (a.put d v) x -> Q (.panic c) a x) (hk : k < 256) (hr3 : r3 <= 2) (hds : ¬ 9223372036854775807 < 1 + dc.size) (Hdc : Hid (dc = decB k)) (Hic : Hid (ic = ⟨#[36]⟩ ++ dc)) (Hus : Hid (us = usr k)) (hI : Hid (DeI p w W bs m q (some b1) none (some B))) (HF : Hid (∀ b1 b2 B W', DeI p w W' bs m q (some b1) (some b2) (some B) -> Q .normal { tmps := #[.pointer (some ⟨p, 0, none⟩), u1, .pointer (some ⟨w.heap.size, 0, none⟩), .int .i64 (k : Int), .pointer (some ⟨B, 0, none⟩), .pointer (some ⟨p, 0, none⟩), .int .i64 (k : Int), .int .i64 (k : Int), .string dc, .string ic, .int .i64 (k : Int), .string us, .int .i64 (k : Int), .int .i64 km, .slice (some ⟨b1, 0, none⟩) 1 1, .slice (some ⟨b2, 0, none⟩) 2 2, .int .i64 (k : Int), .int .i64 (r3 : Int), .slice (some ⟨b2, 0, none⟩) r3 2, .agg #[.string ic, .string us, .string ⟨#[]⟩, .bool false, .string ⟨#[]⟩, .int .i64 km, .slice (some ⟨b1, 0, none⟩) 1 1, .slice (some ⟨b2, 0, none⟩) r3 2, .string ⟨#[]⟩, .slice none 0 0], u20, u21, u22, u23, u24, u25, u26, u27], defers := [] } (fil10 W' B (.string ic) (.string us) (.string ⟨#[]⟩) (.bool false) (.string ⟨#[]⟩) (.int .i64 km) (.slice (some ⟨b1, 0, none⟩) 1 1) (.slice (some ⟨b2, 0, none⟩) r3 2) (.string ⟨#[]⟩) (.slice none 0 0)))) :
  wpAnyH Tryd.prog .any (regO (tlN (Tryd.f12.body.getD .skip) 2)) Q (fun _ => True) 7 #[true, false, false, true, false, true, true, true, false, true, true, false, false, true, false] { tmps := #[.pointer (some ⟨p, 0, none⟩), u1, .pointer (some ⟨w.heap.size, 0, none⟩), .int .i64 (k : Int), .pointer (some ⟨B, 0, none⟩), .pointer (some ⟨p, 0, none⟩), .int .i64 (k : Int), .int .i64 (k : Int), u8, u9, .int .i64 (k : Int), u11, .int .i64 (k : Int), .int .i64 km, .slice (some ⟨b1, 0, none⟩) 1 1, u15, .int .i64 (k : Int), .int .i64 (r3 : Int), u18, u19, u20, u21, u22, u23, u24, u25, u26, u27], defers := [] } W := by
 rw [show (regO (tlN (Tryd.f12.body.getD .skip) 2)) = List.toArray _ from rfl]
 refine wpAnyH_ready (rs := [1, 8]) (by kernel_rfl) (by simp) ?_
 refine AllReadyH.cons rfl (fun K hK => ?_) (AllReadyH.cons rfl (fun K hK => ?_) AllReadyH.nil)
 ·go_simp
  go_at_call 27
  refine (decF k (by omega) _).mono ?_
  rintro e w3 ⟨rfl, hb3⟩
  rw [<- Hdc.out]
  try dsimp only
  refine hK.out _ _ trivial (fun _ => ?_)
  clear hK K
  try simp only [List.setIfInBounds_toArray, List.set_cons_zero, List.set_cons_succ]
  refine wpAnyH_take (i := 2) (v := (.string ic)) rfl (by kernel_rfl) (by kernel_rfl) (by kernel_rfl) (fun c _ _ h => HP c _ _ _ _ h) (Or.inl ⟨by rfl, ?hm1⟩) trivial ?_
  case hm1 => (intro w h; (try dsimp only at h); go_simp; (try rw [Hic.out]))
  simp only [Act.put, si]
  exact wpO rfl (by kernel_rfl) (deN1101 p _ HP hk hr3 hds Hdc Hic Hus (hI.out.below hb3) HF)
 ·have hr3i : (r3 : Int) <= 2 := by omega
  go_simp
  refine hK.out _ _ trivial (fun _ => ?_)
  clear hK K
  try simp only [List.setIfInBounds_toArray, List.set_cons_zero, List.set_cons_succ]
  refine wpAnyH_take (i := 11) (v := ?vm2) rfl (by kernel_rfl) (by kernel_rfl) (by kernel_rfl) (fun c _ _ h => HP c _ _ _ _ h) (Or.inl ⟨by rfl, ?hm2⟩) trivial ?_
  case hm2 => (intro w h; (try dsimp only at h); go_simp; try (with_reducible rfl))
  simp only [Act.put, si]
  exact wpO rfl (by kernel_rfl) (deN0111 p _ HP hk hr3 hds Hdc Hic Hus (hI.out.allocB) HF)
set_option maxRecDepth 100000 in
set_option maxHeartbeats 2000000 in
theorem deN1000 (p : Nat) {bs : Nat -> Nat} {m q k r3 : Nat} {km : Int} {dc ic us : ByteArray} {w : World} {Q : Exit -> Act -> World -> Prop} {u1 u4 u11 u14 u15 u18 u19 u20 u21 u22 u23 u24 u25 u26 u27 : Value} (W : World) (HP : ∀ (c : List PanicEntry) (a : Act) (d : Option Tmp) (v : Value) (x : World), Q (.panic c) (a.put d v) x -> Q (.panic c) a x) (hk : k < 256) (hr3 : r3 <= 2) (hds : ¬ 9223372036854775807 < 1 + dc.size) (Hdc : Hid (dc = decB k)) (Hic : Hid (ic = ⟨#[36]⟩ ++ dc)) (Hus : Hid (us = usr k)) (hI : Hid (DeI p w W bs m q none none none)) (HF : Hid (∀ b1 b2 B W', DeI p w W' bs m q (some b1) (some b2) (some B) -> Q .normal { tmps := #[.pointer (some ⟨p, 0, none⟩), u1, .pointer (some ⟨w.heap.size, 0, none⟩), .int .i64 (k : Int), .pointer (some ⟨B, 0, none⟩), .pointer (some ⟨p, 0, none⟩), .int .i64 (k : Int), .int .i64 (k : Int), .string dc, .string ic, .int .i64 (k : Int), .string us, .int .i64 (k : Int), .int .i64 km, .slice (some ⟨b1, 0, none⟩) 1 1, .slice (some ⟨b2, 0, none⟩) 2 2, .int .i64 (k : Int), .int .i64 (r3 : Int), .slice (some ⟨b2, 0, none⟩) r3 2, .agg #[.string ic, .string us, .string ⟨#[]⟩, .bool false, .string ⟨#[]⟩, .int .i64 km, .slice (some ⟨b1, 0, none⟩) 1 1, .slice (some ⟨b2, 0, none⟩) r3 2, .string ⟨#[]⟩, .slice none 0 0], u20, u21, u22, u23, u24, u25, u26, u27], defers := [] } (fil10 W' B (.string ic) (.string us) (.string ⟨#[]⟩) (.bool false) (.string ⟨#[]⟩) (.int .i64 km) (.slice (some ⟨b1, 0, none⟩) 1 1) (.slice (some ⟨b2, 0, none⟩) r3 2) (.string ⟨#[]⟩) (.slice none 0 0)))) :
  wpAnyH Tryd.prog .any (regO (tlN (Tryd.f12.body.getD .skip) 2)) Q (fun _ => True) 7 #[true, true, true, true, false, true, true, false, false, true, true, false, false, false, false] { tmps := #[.pointer (some ⟨p, 0, none⟩), u1, .pointer (some ⟨w.heap.size, 0, none⟩), .int .i64 (k : Int), u4, .pointer (some ⟨p, 0, none⟩), .int .i64 (k : Int), .int .i64 (k : Int), .string dc, .string ic, .int .i64 (k : Int), u11, .int .i64 (k : Int), .int .i64 km, u14, u15, .int .i64 (k : Int), .int .i64 (r3 : Int), u18, u19, u20, u21, u22, u23, u24, u25, u26, u27], defers := [] } W := by
 rw [show (regO (tlN (Tryd.f12.body.getD .skip) 2)) = List.toArray _ from rfl]
 refine wpAnyH_ready (rs := [4, 7, 8, 13]) (by kernel_rfl) (by simp) ?_
 refine AllReadyH.cons rfl (fun K hK => ?_) (AllReadyH.cons rfl (fun K hK => ?_) (AllReadyH.cons rfl (fun K hK => ?_) (AllReadyH.cons rfl (fun K hK => ?_) AllReadyH.nil)))
 ·go_simp
  go_at_call 28
  refine (userF k _ (by omega)).mono ?_
  rintro e w3 ⟨rfl, hb3⟩
  rw [<- Hus.out]
  try dsimp only
  refine hK.out _ _ trivial (fun _ => ?_)
  clear hK K
  try simp only [List.setIfInBounds_toArray, List.set_cons_zero, List.set_cons_succ]
  exact wpO rfl (by kernel_rfl) (deN2000 p _ HP hk hr3 hds Hdc Hic Hus (hI.out.below hb3) HF)
 ·go_simp
  refine hK.out _ _ trivial (fun _ => ?_)
  clear hK K
  try simp only [List.setIfInBounds_toArray, List.set_cons_zero, List.set_cons_succ]
  exact wpO rfl (by kernel_rfl) (deN1100 p _ HP hk hr3 hds Hdc Hic Hus (hI.out.allocA) HF)
 ·have hr3i : (r3 : Int) <= 2 := by omega
  go_simp
  refine hK.out _ _ trivial (fun _ => ?_)
  clear hK K
  try simp only [List.setIfInBounds_toArray, List.set_cons_zero, List.set_cons_succ]
  refine wpAnyH_take (i := 11) (v := ?vm1) rfl (by kernel_rfl) (by kernel_rfl) (by kernel_rfl) (fun c _ _ h => HP c _ _ _ _ h) (Or.inl ⟨by rfl, ?hm1⟩) trivial ?_
  case hm1 => (intro w h; (try dsimp only at h); go_simp; try (with_reducible rfl))
  simp only [Act.put, si]
  exact wpO rfl (by kernel_rfl) (deN1010 p _ HP hk hr3 hds Hdc Hic Hus (hI.out.allocB) HF)
 ·go_simp
  refine hK.out _ _ trivial (fun _ => ?_)
  clear hK K
  try simp only [List.setIfInBounds_toArray, List.set_cons_zero, List.set_cons_succ]
  exact wpO rfl (by kernel_rfl) (deN1001 p _ HP hk hr3 hds Hdc Hic Hus (hI.out.allocV) HF)
set_option maxRecDepth 100000 in
set_option maxHeartbeats 2000000 in
theorem deN0001 (p : Nat) {bs : Nat -> Nat} {m q k r3 : Nat} {km : Int} {dc ic us : ByteArray} {w : World} {Q : Exit -> Act -> World -> Prop} {u1 u8 u9 u11 u14 u15 u18 u19 u20 u21 u22 u23 u24 u25 u26 u27 : Value} {B : Nat} (W : World) (HP : ∀ (c : List PanicEntry) (a : Act) (d : Option Tmp) (v : Value) (x : World), Q (.panic c) (a.put d v) x -> Q (.panic c) a x) (hk : k < 256) (hr3 : r3 <= 2) (hds : ¬ 9223372036854775807 < 1 + dc.size) (Hdc : Hid (dc = decB k)) (Hic : Hid (ic = ⟨#[36]⟩ ++ dc)) (Hus : Hid (us = usr k)) (hI : Hid (DeI p w W bs m q none none (some B))) (HF : Hid (∀ b1 b2 B W', DeI p w W' bs m q (some b1) (some b2) (some B) -> Q .normal { tmps := #[.pointer (some ⟨p, 0, none⟩), u1, .pointer (some ⟨w.heap.size, 0, none⟩), .int .i64 (k : Int), .pointer (some ⟨B, 0, none⟩), .pointer (some ⟨p, 0, none⟩), .int .i64 (k : Int), .int .i64 (k : Int), .string dc, .string ic, .int .i64 (k : Int), .string us, .int .i64 (k : Int), .int .i64 km, .slice (some ⟨b1, 0, none⟩) 1 1, .slice (some ⟨b2, 0, none⟩) 2 2, .int .i64 (k : Int), .int .i64 (r3 : Int), .slice (some ⟨b2, 0, none⟩) r3 2, .agg #[.string ic, .string us, .string ⟨#[]⟩, .bool false, .string ⟨#[]⟩, .int .i64 km, .slice (some ⟨b1, 0, none⟩) 1 1, .slice (some ⟨b2, 0, none⟩) r3 2, .string ⟨#[]⟩, .slice none 0 0], u20, u21, u22, u23, u24, u25, u26, u27], defers := [] } (fil10 W' B (.string ic) (.string us) (.string ⟨#[]⟩) (.bool false) (.string ⟨#[]⟩) (.int .i64 km) (.slice (some ⟨b1, 0, none⟩) 1 1) (.slice (some ⟨b2, 0, none⟩) r3 2) (.string ⟨#[]⟩) (.slice none 0 0)))) :
  wpAnyH Tryd.prog .any (regO (tlN (Tryd.f12.body.getD .skip) 2)) Q (fun _ => True) 8 #[true, false, false, true, false, true, true, false, false, true, true, false, false, true, false] { tmps := #[.pointer (some ⟨p, 0, none⟩), u1, .pointer (some ⟨w.heap.size, 0, none⟩), .int .i64 (k : Int), .pointer (some ⟨B, 0, none⟩), .pointer (some ⟨p, 0, none⟩), .int .i64 (k : Int), .int .i64 (k : Int), u8, u9, .int .i64 (k : Int), u11, .int .i64 (k : Int), .int .i64 km, u14, u15, .int .i64 (k : Int), .int .i64 (r3 : Int), u18, u19, u20, u21, u22, u23, u24, u25, u26, u27], defers := [] } W := by
 rw [show (regO (tlN (Tryd.f12.body.getD .skip) 2)) = List.toArray _ from rfl]
 refine wpAnyH_ready (rs := [1, 7, 8]) (by kernel_rfl) (by simp) ?_
 refine AllReadyH.cons rfl (fun K hK => ?_) (AllReadyH.cons rfl (fun K hK => ?_) (AllReadyH.cons rfl (fun K hK => ?_) AllReadyH.nil))
 ·go_simp
  go_at_call 27
  refine (decF k (by omega) _).mono ?_
  rintro e w3 ⟨rfl, hb3⟩
  rw [<- Hdc.out]
  try dsimp only
  refine hK.out _ _ trivial (fun _ => ?_)
  clear hK K
  try simp only [List.setIfInBounds_toArray, List.set_cons_zero, List.set_cons_succ]
  refine wpAnyH_take (i := 2) (v := (.string ic)) rfl (by kernel_rfl) (by kernel_rfl) (by kernel_rfl) (fun c _ _ h => HP c _ _ _ _ h) (Or.inl ⟨by rfl, ?hm1⟩) trivial ?_
  case hm1 => (intro w h; (try dsimp only at h); go_simp; (try rw [Hic.out]))
  simp only [Act.put, si]
  exact wpO rfl (by kernel_rfl) (deN1001 p _ HP hk hr3 hds Hdc Hic Hus (hI.out.below hb3) HF)
 ·go_simp
  refine hK.out _ _ trivial (fun _ => ?_)
  clear hK K
  try simp only [List.setIfInBounds_toArray, List.set_cons_zero, List.set_cons_succ]
  exact wpO rfl (by kernel_rfl) (deN0101 p _ HP hk hr3 hds Hdc Hic Hus (hI.out.allocA) HF)
 ·have hr3i : (r3 : Int) <= 2 := by omega
  go_simp
  refine hK.out _ _ trivial (fun _ => ?_)
  clear hK K
  try simp only [List.setIfInBounds_toArray, List.set_cons_zero, List.set_cons_succ]
  refine wpAnyH_take (i := 11) (v := ?vm2) rfl (by kernel_rfl) (by kernel_rfl) (by kernel_rfl) (fun c _ _ h => HP c _ _ _ _ h) (Or.inl ⟨by rfl, ?hm2⟩) trivial ?_
  case hm2 => (intro w h; (try dsimp only at h); go_simp; try (with_reducible rfl))
  simp only [Act.put, si]
  exact wpO rfl (by kernel_rfl) (deN0011 p _ HP hk hr3 hds Hdc Hic Hus (hI.out.allocB) HF)
set_option maxRecDepth 100000 in
set_option maxHeartbeats 2000000 in
theorem deN0100 (p : Nat) {bs : Nat -> Nat} {m q k r3 : Nat} {km : Int} {dc ic us : ByteArray} {w : World} {Q : Exit -> Act -> World -> Prop} {u1 u4 u8 u9 u11 u15 u18 u19 u20 u21 u22 u23 u24 u25 u26 u27 : Value} {b1 : Nat} (W : World) (HP : ∀ (c : List PanicEntry) (a : Act) (d : Option Tmp) (v : Value) (x : World), Q (.panic c) (a.put d v) x -> Q (.panic c) a x) (hk : k < 256) (hr3 : r3 <= 2) (hds : ¬ 9223372036854775807 < 1 + dc.size) (Hdc : Hid (dc = decB k)) (Hic : Hid (ic = ⟨#[36]⟩ ++ dc)) (Hus : Hid (us = usr k)) (hI : Hid (DeI p w W bs m q (some b1) none none)) (HF : Hid (∀ b1 b2 B W', DeI p w W' bs m q (some b1) (some b2) (some B) -> Q .normal { tmps := #[.pointer (some ⟨p, 0, none⟩), u1, .pointer (some ⟨w.heap.size, 0, none⟩), .int .i64 (k : Int), .pointer (some ⟨B, 0, none⟩), .pointer (some ⟨p, 0, none⟩), .int .i64 (k : Int), .int .i64 (k : Int), .string dc, .string ic, .int .i64 (k : Int), .string us, .int .i64 (k : Int), .int .i64 km, .slice (some ⟨b1, 0, none⟩) 1 1, .slice (some ⟨b2, 0, none⟩) 2 2, .int .i64 (k : Int), .int .i64 (r3 : Int), .slice (some ⟨b2, 0, none⟩) r3 2, .agg #[.string ic, .string us, .string ⟨#[]⟩, .bool false, .string ⟨#[]⟩, .int .i64 km, .slice (some ⟨b1, 0, none⟩) 1 1, .slice (some ⟨b2, 0, none⟩) r3 2, .string ⟨#[]⟩, .slice none 0 0], u20, u21, u22, u23, u24, u25, u26, u27], defers := [] } (fil10 W' B (.string ic) (.string us) (.string ⟨#[]⟩) (.bool false) (.string ⟨#[]⟩) (.int .i64 km) (.slice (some ⟨b1, 0, none⟩) 1 1) (.slice (some ⟨b2, 0, none⟩) r3 2) (.string ⟨#[]⟩) (.slice none 0 0)))) :
  wpAnyH Tryd.prog .any (regO (tlN (Tryd.f12.body.getD .skip) 2)) Q (fun _ => True) 8 #[true, false, false, true, false, true, true, true, false, true, true, false, false, false, false] { tmps := #[.pointer (some ⟨p, 0, none⟩), u1, .pointer (some ⟨w.heap.size, 0, none⟩), .int .i64 (k : Int), u4, .pointer (some ⟨p, 0, none⟩), .int .i64 (k : Int), .int .i64 (k : Int), u8, u9, .int .i64 (k : Int), u11, .int .i64 (k : Int), .int .i64 km, .slice (some ⟨b1, 0, none⟩) 1 1, u15, .int .i64 (k : Int), .int .i64 (r3 : Int), u18, u19, u20, u21, u22, u23, u24, u25, u26, u27], defers := [] } W := by
 rw [show (regO (tlN (Tryd.f12.body.getD .skip) 2)) = List.toArray _ from rfl]
 refine wpAnyH_ready (rs := [1, 8, 13]) (by kernel_rfl) (by simp) ?_
 refine AllReadyH.cons rfl (fun K hK => ?_) (AllReadyH.cons rfl (fun K hK => ?_) (AllReadyH.cons rfl (fun K hK => ?_) AllReadyH.nil))
 ·go_simp
  go_at_call 27
  refine (decF k (by omega) _).mono ?_
  rintro e w3 ⟨rfl, hb3⟩
  rw [<- Hdc.out]
  try dsimp only
  refine hK.out _ _ trivial (fun _ => ?_)
  clear hK K
  try simp only [List.setIfInBounds_toArray, List.set_cons_zero, List.set_cons_succ]
  refine wpAnyH_take (i := 2) (v := (.string ic)) rfl (by kernel_rfl) (by kernel_rfl) (by kernel_rfl) (fun c _ _ h => HP c _ _ _ _ h) (Or.inl ⟨by rfl, ?hm1⟩) trivial ?_
  case hm1 => (intro w h; (try dsimp only at h); go_simp; (try rw [Hic.out]))
  simp only [Act.put, si]
  exact wpO rfl (by kernel_rfl) (deN1100 p _ HP hk hr3 hds Hdc Hic Hus (hI.out.below hb3) HF)
 ·have hr3i : (r3 : Int) <= 2 := by omega
  go_simp
  refine hK.out _ _ trivial (fun _ => ?_)
  clear hK K
  try simp only [List.setIfInBounds_toArray, List.set_cons_zero, List.set_cons_succ]
  refine wpAnyH_take (i := 11) (v := ?vm2) rfl (by kernel_rfl) (by kernel_rfl) (by kernel_rfl) (fun c _ _ h => HP c _ _ _ _ h) (Or.inl ⟨by rfl, ?hm2⟩) trivial ?_
  case hm2 => (intro w h; (try dsimp only at h); go_simp; try (with_reducible rfl))
  simp only [Act.put, si]
  exact wpO rfl (by kernel_rfl) (deN0110 p _ HP hk hr3 hds Hdc Hic Hus (hI.out.allocB) HF)
 ·go_simp
  refine hK.out _ _ trivial (fun _ => ?_)
  clear hK K
  try simp only [List.setIfInBounds_toArray, List.set_cons_zero, List.set_cons_succ]
  exact wpO rfl (by kernel_rfl) (deN0101 p _ HP hk hr3 hds Hdc Hic Hus (hI.out.allocV) HF)
set_option maxRecDepth 100000 in
set_option maxHeartbeats 2000000 in
theorem deN0000 (p : Nat) {bs : Nat -> Nat} {m q k r3 : Nat} {km : Int} {dc ic us : ByteArray} {w : World} {Q : Exit -> Act -> World -> Prop} {u1 u4 u8 u9 u11 u14 u15 u18 u19 u20 u21 u22 u23 u24 u25 u26 u27 : Value} (W : World) (HP : ∀ (c : List PanicEntry) (a : Act) (d : Option Tmp) (v : Value) (x : World), Q (.panic c) (a.put d v) x -> Q (.panic c) a x) (hk : k < 256) (hr3 : r3 <= 2) (hds : ¬ 9223372036854775807 < 1 + dc.size) (Hdc : Hid (dc = decB k)) (Hic : Hid (ic = ⟨#[36]⟩ ++ dc)) (Hus : Hid (us = usr k)) (hI : Hid (DeI p w W bs m q none none none)) (HF : Hid (∀ b1 b2 B W', DeI p w W' bs m q (some b1) (some b2) (some B) -> Q .normal { tmps := #[.pointer (some ⟨p, 0, none⟩), u1, .pointer (some ⟨w.heap.size, 0, none⟩), .int .i64 (k : Int), .pointer (some ⟨B, 0, none⟩), .pointer (some ⟨p, 0, none⟩), .int .i64 (k : Int), .int .i64 (k : Int), .string dc, .string ic, .int .i64 (k : Int), .string us, .int .i64 (k : Int), .int .i64 km, .slice (some ⟨b1, 0, none⟩) 1 1, .slice (some ⟨b2, 0, none⟩) 2 2, .int .i64 (k : Int), .int .i64 (r3 : Int), .slice (some ⟨b2, 0, none⟩) r3 2, .agg #[.string ic, .string us, .string ⟨#[]⟩, .bool false, .string ⟨#[]⟩, .int .i64 km, .slice (some ⟨b1, 0, none⟩) 1 1, .slice (some ⟨b2, 0, none⟩) r3 2, .string ⟨#[]⟩, .slice none 0 0], u20, u21, u22, u23, u24, u25, u26, u27], defers := [] } (fil10 W' B (.string ic) (.string us) (.string ⟨#[]⟩) (.bool false) (.string ⟨#[]⟩) (.int .i64 km) (.slice (some ⟨b1, 0, none⟩) 1 1) (.slice (some ⟨b2, 0, none⟩) r3 2) (.string ⟨#[]⟩) (.slice none 0 0)))) :
  wpAnyH Tryd.prog .any (regO (tlN (Tryd.f12.body.getD .skip) 2)) Q (fun _ => True) 9 #[true, false, false, true, false, true, true, false, false, true, true, false, false, false, false] { tmps := #[.pointer (some ⟨p, 0, none⟩), u1, .pointer (some ⟨w.heap.size, 0, none⟩), .int .i64 (k : Int), u4, .pointer (some ⟨p, 0, none⟩), .int .i64 (k : Int), .int .i64 (k : Int), u8, u9, .int .i64 (k : Int), u11, .int .i64 (k : Int), .int .i64 km, u14, u15, .int .i64 (k : Int), .int .i64 (r3 : Int), u18, u19, u20, u21, u22, u23, u24, u25, u26, u27], defers := [] } W := by
 rw [show (regO (tlN (Tryd.f12.body.getD .skip) 2)) = List.toArray _ from rfl]
 refine wpAnyH_ready (rs := [1, 7, 8, 13]) (by kernel_rfl) (by simp) ?_
 refine AllReadyH.cons rfl (fun K hK => ?_) (AllReadyH.cons rfl (fun K hK => ?_) (AllReadyH.cons rfl (fun K hK => ?_) (AllReadyH.cons rfl (fun K hK => ?_) AllReadyH.nil)))
 ·go_simp
  go_at_call 27
  refine (decF k (by omega) _).mono ?_
  rintro e w3 ⟨rfl, hb3⟩
  rw [<- Hdc.out]
  try dsimp only
  refine hK.out _ _ trivial (fun _ => ?_)
  clear hK K
  try simp only [List.setIfInBounds_toArray, List.set_cons_zero, List.set_cons_succ]
  refine wpAnyH_take (i := 2) (v := (.string ic)) rfl (by kernel_rfl) (by kernel_rfl) (by kernel_rfl) (fun c _ _ h => HP c _ _ _ _ h) (Or.inl ⟨by rfl, ?hm1⟩) trivial ?_
  case hm1 => (intro w h; (try dsimp only at h); go_simp; (try rw [Hic.out]))
  simp only [Act.put, si]
  exact wpO rfl (by kernel_rfl) (deN1000 p _ HP hk hr3 hds Hdc Hic Hus (hI.out.below hb3) HF)
 ·go_simp
  refine hK.out _ _ trivial (fun _ => ?_)
  clear hK K
  try simp only [List.setIfInBounds_toArray, List.set_cons_zero, List.set_cons_succ]
  exact wpO rfl (by kernel_rfl) (deN0100 p _ HP hk hr3 hds Hdc Hic Hus (hI.out.allocA) HF)
 ·have hr3i : (r3 : Int) <= 2 := by omega
  go_simp
  refine hK.out _ _ trivial (fun _ => ?_)
  clear hK K
  try simp only [List.setIfInBounds_toArray, List.set_cons_zero, List.set_cons_succ]
  refine wpAnyH_take (i := 11) (v := ?vm2) rfl (by kernel_rfl) (by kernel_rfl) (by kernel_rfl) (fun c _ _ h => HP c _ _ _ _ h) (Or.inl ⟨by rfl, ?hm2⟩) trivial ?_
  case hm2 => (intro w h; (try dsimp only at h); go_simp; try (with_reducible rfl))
  simp only [Act.put, si]
  exact wpO rfl (by kernel_rfl) (deN0010 p _ HP hk hr3 hds Hdc Hic Hus (hI.out.allocB) HF)
 ·go_simp
  refine hK.out _ _ trivial (fun _ => ?_)
  clear hK K
  try simp only [List.setIfInBounds_toArray, List.set_cons_zero, List.set_cons_succ]
  exact wpO rfl (by kernel_rfl) (deN0001 p _ HP hk hr3 hds Hdc Hic Hus (hI.out.allocV) HF)
end Go.Proofs.YtihacnhmiopalaaDoor
