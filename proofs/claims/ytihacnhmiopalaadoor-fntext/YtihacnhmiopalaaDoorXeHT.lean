import Derived.Test.YtihacnhmiopalaaDoorXeGT
namespace Go.Proofs.YtihacnhmiopalaaDoor
open Go.RowKit
set_option maxRecDepth 100000 in
set_option maxHeartbeats 2000000 in
theorem xeC13 (p : Nat) {bs : Nat -> Nat} {m q k v : Nat} {e : Ev} {t : Ls} {od : ByteArray} {R : Ending -> World -> Prop} {u1 u8 u9 u10 u11 u12 u13 u14 u15 u16 u17 u18 u19 u20 u21 u22 u23 u24 u25 u26 u27 u28 u29 u30 u31 u32 u33 u34 u35 u36 u37 u38 u39 u40 u41 u42 u43 u44 u45 u46 u47 u48 u49 u50 u51 u52 u53 u54 u55 u56 u57 u58 u59 u60 u61 u62 u63 u64 u65 u66 u67 u68 u69 u70 u71 u72 u73 u74 u75 u76 u77 u78 u79 u80 u81 u82 u83 u84 u85 u86 u87 u88 u89 u90 u91 u92 u93 u94 u95 u96 u97 u98 u99 u100 u101 u102 u103 u104 u105 u106 u107 u108 u109 u110 u111 u112 u113 u114 u115 u116 u117 u118 u119 u120 u121 u122 u123 u124 u125 u126 u127 u128 u129 u130 u131 u132 u133 u134 u135 u136 u137 u138 u139 u140 u141 u142 u143 u144 u145 u146 u147 u148 u149 u150 u151 u152 u153 u154 u155 u156 u157 u158 u159 u160 u161 u162 u163 u164 u165 u166 : Value} (wo w W : World) (hp : p < wo.heap.size) (hww : wo.heap.size <= w.heap.size) (hhi : t.hi <= w.heap.size) (hk : k < 256) (hc : k % 16 = 13) (HQ : Hid (QO W e t)) (HX : Hid (EvX p wo w W bs m q t.lo t.hi (fun o => (#[.string e.id, .string e.sd, .string e.ty, .bool e.st, .string e.key, .int .i64 e.tm, .slice t.pa e.np t.cp, .slice t.aa e.na t.ca, .string e.val, .slice t.ga e.ng t.cg] : Array Value)[o]?.getD undef))) (HR : Hid (XeR p wo w bs m q t.lo t.hi (spE k v e) R)) :
  Code.wp Tryd.prog (tlN (Tryd.f13.body.getD .skip) 4) (bodyPost Tryd.prog Tryd.f13 R) { tmps := #[.pointer (some ⟨p, 0, none⟩), u1, undef, .pointer (some ⟨w.heap.size, 0, none⟩), .pointer (some ⟨w.heap.size + 1, 0, none⟩), .int .i64 (k : Int), .int .i64 (v : Int), .string od, u8, u9, u10, u11, u12, u13, u14, u15, u16, u17, u18, u19, u20, u21, u22, u23, u24, u25, u26, u27, u28, u29, u30, u31, u32, u33, u34, u35, u36, u37, u38, u39, u40, u41, u42, u43, u44, u45, u46, u47, u48, u49, u50, u51, u52, u53, u54, u55, u56, u57, u58, u59, u60, u61, u62, u63, u64, u65, u66, u67, u68, u69, u70, u71, u72, u73, u74, u75, u76, u77, u78, u79, u80, u81, u82, u83, u84, u85, u86, u87, u88, u89, u90, u91, u92, u93, u94, u95, u96, u97, u98, u99, u100, u101, u102, u103, u104, u105, u106, u107, u108, u109, u110, u111, u112, u113, u114, u115, u116, u117, u118, u119, u120, u121, u122, u123, u124, u125, u126, u127, u128, u129, u130, u131, u132, u133, u134, u135, u136, u137, u138, u139, u140, u141, u142, u143, u144, u145, u146, u147, u148, u149, u150, u151, u152, u153, u154, u155, u156, u157, u158, u159, u160, u161, u162, u163, u164, u165, u166], defers := [] } W := by
 rw [show tlN (Tryd.f13.body.getD .skip) 4 = Code.seq _ _ from rfl]
 obtain ⟨tt, htt⟩ : ∃ tt, tt = oddT v := ⟨_, rfl⟩
 obtain ⟨v4, hv4⟩ : ∃ v4, v4 = v % 4 := ⟨_, rfl⟩
 have hv4i : (v : Int) % 4 = (v4 : Int) := by omega
 have hv40 : (0 : Int) <= (v4 : Int) := by omega
 have hv4l : (v4 : Int) < 4 := by omega
 have hix : (W.alloc (.cells #[.string ⟨#[99, 114, 101, 97, 116, 101]⟩, .string ⟨#[109, 101, 109, 98, 101, 114]⟩, .string ⟨#[112, 111, 119, 101, 114]⟩, .string ⟨#[106, 111, 105, 110, 95, 114, 117, 108, 101, 115]⟩] 9)).cell? ⟨W.heap.size, v4, none⟩ = some (.string tt) := by
  rw [World.cell?_alloc_at _ _ _ _ rfl, htt]
  unfold oddT
  rw [<- hv4]
  match v4, (by omega : v4 < 4) with
  | 0, _ => rfl
  | 1, _ => rfl
  | 2, _ => rfl
  | 3, _ => rfl
 have htz : tt.size <= maxLen := by rw [htt]; exact Nat.le_trans (oddT_size v) (by decide)
 have hsp : spE k v e = { e with ty := tt } := by rw [htt]; unfold spE; simp [hc]
 rw [hsp] at HR
 clear htt hv4
 have hci : (k : Int) % 16 = 13 := by omega
 have hbA : Below W.heap.size W (W.alloc (.cells #[.string ⟨#[99, 114, 101, 97, 116, 101]⟩, .string ⟨#[109, 101, 109, 98, 101, 114]⟩, .string ⟨#[112, 111, 119, 101, 114]⟩, .string ⟨#[106, 111, 105, 110, 95, 114, 117, 108, 101, 115]⟩] 9)) := (Below.refl _ _).alloc (Nat.le_refl _) _
 have bo : (W.alloc (.cells #[.string ⟨#[99, 114, 101, 97, 116, 101]⟩, .string ⟨#[109, 101, 109, 98, 101, 114]⟩, .string ⟨#[112, 111, 119, 101, 114]⟩, .string ⟨#[106, 111, 105, 110, 95, 114, 117, 108, 101, 115]⟩] 9)).cell? ⟨w.heap.size, 2, none⟩ = some (.string e.ty) := (HX.out.below hbA).b 2 (by decide)
 have f0 := (HX.out.below hbA).f0
 have hXs := HX.out.sz
 have hne : W.heap.size ≠ w.heap.size := by omega
 have HX2 : Hid (EvX p wo w ((W.alloc (.cells #[.string ⟨#[99, 114, 101, 97, 116, 101]⟩, .string ⟨#[109, 101, 109, 98, 101, 114]⟩, .string ⟨#[112, 111, 119, 101, 114]⟩, .string ⟨#[106, 111, 105, 110, 95, 114, 117, 108, 101, 115]⟩] 9)).setCell ⟨w.heap.size, 2, none⟩ (.string tt)) bs m q t.lo t.hi (fun o => (#[.string e.id, .string e.sd, .string tt, .bool e.st, .string e.key, .int .i64 e.tm, .slice t.pa e.np t.cp, .slice t.aa e.na t.ca, .string e.val, .slice t.ga e.ng t.cg] : Array Value)[o]?.getD undef)) := ((HX.out.below hbA).set hp hww 2 (.string tt)).congr (fun o ho => by
  match o, ho with
  | 0, _ => rfl
  | 1, _ => rfl
  | 2, _ => rfl
  | 3, _ => rfl
  | 4, _ => rfl
  | 5, _ => rfl
  | 6, _ => rfl
  | 7, _ => rfl
  | 8, _ => rfl
  | 9, _ => rfl)
 have HQ2 : Hid (QO ((W.alloc (.cells #[.string ⟨#[99, 114, 101, 97, 116, 101]⟩, .string ⟨#[109, 101, 109, 98, 101, 114]⟩, .string ⟨#[112, 111, 119, 101, 114]⟩, .string ⟨#[106, 111, 105, 110, 95, 114, 117, 108, 101, 115]⟩] 9)).setCell ⟨w.heap.size, 2, none⟩ (.string tt)) e t) := (qcO.below HQ.out hbA).kx ((Kb.refl _ _).set 2 _) (Or.inr hhi)
 clear HX HQ hbA
 go_upto_if 23 with fail
 go_cut [166] (fun _ wx => wx = ((W.alloc (.cells #[.string ⟨#[99, 114, 101, 97, 116, 101]⟩, .string ⟨#[109, 101, 109, 98, 101, 114]⟩, .string ⟨#[112, 111, 119, 101, 114]⟩, .string ⟨#[106, 111, 105, 110, 95, 114, 117, 108, 101, 115]⟩] 9)).setCell ⟨w.heap.size, 2, none⟩ (.string tt)))
 case first =>
  clear HX2 HQ2 HR
  go_wp2
  go_meet
  rfl
 case rest =>
  subst hcut
  apply_assumption
  refine xeEnd p (e := { e with ty := tt }) wo w _ hp hww HX2 (fun W' hK hD => HR.out _ _ _ _ _ _ _ W' ?_ (HQ2.out.xe _).1 ((HQ2.out.xe _).2.1) (HQ2.out.xe _).2.2 HX2.out hK hD)
  have h := HQ2.out.j.ok
  exact ⟨h.hid, h.hsd, htz, h.hkey, h.hval, h.hp, h.ha, h.hg⟩
set_option maxRecDepth 100000 in
set_option maxHeartbeats 2000000 in
theorem xeC15 (p : Nat) {bs : Nat -> Nat} {m q k v : Nat} {e : Ev} {t : Ls} {od : ByteArray} {R : Ending -> World -> Prop} {u1 u8 u9 u10 u11 u12 u13 u14 u15 u16 u17 u18 u19 u20 u21 u22 u23 u24 u25 u26 u27 u28 u29 u30 u31 u32 u33 u34 u35 u36 u37 u38 u39 u40 u41 u42 u43 u44 u45 u46 u47 u48 u49 u50 u51 u52 u53 u54 u55 u56 u57 u58 u59 u60 u61 u62 u63 u64 u65 u66 u67 u68 u69 u70 u71 u72 u73 u74 u75 u76 u77 u78 u79 u80 u81 u82 u83 u84 u85 u86 u87 u88 u89 u90 u91 u92 u93 u94 u95 u96 u97 u98 u99 u100 u101 u102 u103 u104 u105 u106 u107 u108 u109 u110 u111 u112 u113 u114 u115 u116 u117 u118 u119 u120 u121 u122 u123 u124 u125 u126 u127 u128 u129 u130 u131 u132 u133 u134 u135 u136 u137 u138 u139 u140 u141 u142 u143 u144 u145 u146 u147 u148 u149 u150 u151 u152 u153 u154 u155 u156 u157 u158 u159 u160 u161 u162 u163 u164 u165 u166 : Value} (wo w W : World) (hp : p < wo.heap.size) (hww : wo.heap.size <= w.heap.size) (hhi : t.hi <= w.heap.size) (hk : k < 256) (hc : k % 16 = 15) (HQ : Hid (QO W e t)) (HX : Hid (EvX p wo w W bs m q t.lo t.hi (fun o => (#[.string e.id, .string e.sd, .string e.ty, .bool e.st, .string e.key, .int .i64 e.tm, .slice t.pa e.np t.cp, .slice t.aa e.na t.ca, .string e.val, .slice t.ga e.ng t.cg] : Array Value)[o]?.getD undef))) (HR : Hid (XeR p wo w bs m q t.lo t.hi (spE k v e) R)) :
  Code.wp Tryd.prog (tlN (Tryd.f13.body.getD .skip) 4) (bodyPost Tryd.prog Tryd.f13 R) { tmps := #[.pointer (some ⟨p, 0, none⟩), u1, undef, .pointer (some ⟨w.heap.size, 0, none⟩), .pointer (some ⟨w.heap.size + 1, 0, none⟩), .int .i64 (k : Int), .int .i64 (v : Int), .string od, u8, u9, u10, u11, u12, u13, u14, u15, u16, u17, u18, u19, u20, u21, u22, u23, u24, u25, u26, u27, u28, u29, u30, u31, u32, u33, u34, u35, u36, u37, u38, u39, u40, u41, u42, u43, u44, u45, u46, u47, u48, u49, u50, u51, u52, u53, u54, u55, u56, u57, u58, u59, u60, u61, u62, u63, u64, u65, u66, u67, u68, u69, u70, u71, u72, u73, u74, u75, u76, u77, u78, u79, u80, u81, u82, u83, u84, u85, u86, u87, u88, u89, u90, u91, u92, u93, u94, u95, u96, u97, u98, u99, u100, u101, u102, u103, u104, u105, u106, u107, u108, u109, u110, u111, u112, u113, u114, u115, u116, u117, u118, u119, u120, u121, u122, u123, u124, u125, u126, u127, u128, u129, u130, u131, u132, u133, u134, u135, u136, u137, u138, u139, u140, u141, u142, u143, u144, u145, u146, u147, u148, u149, u150, u151, u152, u153, u154, u155, u156, u157, u158, u159, u160, u161, u162, u163, u164, u165, u166], defers := [] } W := by
 rw [show tlN (Tryd.f13.body.getD .skip) 4 = Code.seq _ _ from rfl]
 have hsp : spE k v e = { e with na := 0 } := by unfold spE; simp [hc]
 rw [hsp] at HR
 have hci : (k : Int) % 16 = 15 := by omega
 have hbA : Below W.heap.size W (W.alloc (.cells #[] 9)) := (Below.refl _ _).alloc (Nat.le_refl _) _
 have bo : (W.alloc (.cells #[] 9)).cell? ⟨w.heap.size, 7, none⟩ = some (.slice t.aa e.na t.ca) := (HX.out.below hbA).b 7 (by decide)
 have f0 := (HX.out.below hbA).f0
 have hXs := HX.out.sz
 have hne : W.heap.size ≠ w.heap.size := by omega
 have HX2 : Hid (EvX p wo w ((W.alloc (.cells #[] 9)).setCell ⟨w.heap.size, 7, none⟩ (.slice (some ⟨W.heap.size, 0, none⟩) 0 0)) bs m q t.lo t.hi (fun o => (#[.string e.id, .string e.sd, .string e.ty, .bool e.st, .string e.key, .int .i64 e.tm, .slice t.pa e.np t.cp, .slice (some ⟨W.heap.size, 0, none⟩) 0 0, .string e.val, .slice t.ga e.ng t.cg] : Array Value)[o]?.getD undef)) := ((HX.out.below hbA).set hp hww 7 (.slice (some ⟨W.heap.size, 0, none⟩) 0 0)).congr (fun o ho => by
  match o, ho with
  | 0, _ => rfl
  | 1, _ => rfl
  | 2, _ => rfl
  | 3, _ => rfl
  | 4, _ => rfl
  | 5, _ => rfl
  | 6, _ => rfl
  | 7, _ => rfl
  | 8, _ => rfl
  | 9, _ => rfl)
 have HQ2 : Hid (QO ((W.alloc (.cells #[] 9)).setCell ⟨w.heap.size, 7, none⟩ (.slice (some ⟨W.heap.size, 0, none⟩) 0 0)) e t) := (qcO.below HQ.out hbA).kx ((Kb.refl _ _).set 7 _) (Or.inr hhi)
 clear HX HQ hbA
 go_upto_if 23 with fail
 go_cut [166] (fun _ wx => wx = ((W.alloc (.cells #[] 9)).setCell ⟨w.heap.size, 7, none⟩ (.slice (some ⟨W.heap.size, 0, none⟩) 0 0)))
 case first =>
  clear HX2 HQ2 HR
  go_wp2
  go_meet
  rfl
 case rest =>
  subst hcut
  apply_assumption
  refine xeEnd p (e := { e with na := 0 }) wo w _ hp hww HX2 (fun W' hK hD => HR.out _ _ _ _ _ _ _ W' ?_ (HQ2.out.xe _).1 (Or.inl rfl) (HQ2.out.xe _).2.2 HX2.out hK hD)
  have h := HQ2.out.j.ok
  exact ⟨h.hid, h.hsd, h.hty, h.hkey, h.hval, h.hp, ⟨Nat.le_refl _, by decide, fun i hi => absurd hi (Nat.not_lt_zero _), Or.inl rfl⟩, h.hg⟩
end Go.Proofs.YtihacnhmiopalaaDoor
