import Derived.Test.YtihacnhmiopalaaDoorXePZT
namespace Go.Proofs.YtihacnhmiopalaaDoor
open Go.RowKit
set_option maxRecDepth 100000 in
set_option maxHeartbeats 1000000 in
theorem xeEnd (p : Nat) {bs : Nat -> Nat} {m q lo hi : Nat} {e : Ev} {pa aa ga : Option Addr} {cp ca cg : Nat} {R : Ending -> World -> Prop} {u1 u5 u6 u7 u8 u9 u10 u11 u12 u13 u14 u15 u16 u17 u18 u19 u20 u21 u22 u23 u24 u25 u26 u27 u28 u29 u30 u31 u32 u33 u34 u35 u36 u37 u38 u39 u40 u41 u42 u43 u44 u45 u46 u47 u48 u49 u50 u51 u52 u53 u54 u55 u56 u57 u58 u59 u60 u61 u62 u63 u64 u65 u66 u67 u68 u69 u70 u71 u72 u73 u74 u75 u76 u77 u78 u79 u80 u81 u82 u83 u84 u85 u86 u87 u88 u89 u90 u91 u92 u93 u94 u95 u96 u97 u98 u99 u100 u101 u102 u103 u104 u105 u106 u107 u108 u109 u110 u111 u112 u113 u114 u115 u116 u117 u118 u119 u120 u121 u122 u123 u124 u125 u126 u127 u128 u129 u130 u131 u132 u133 u134 u135 u136 u137 u138 u139 u140 u141 u142 u143 u144 u145 u146 u147 u148 u149 u150 u151 u152 u153 u154 u155 u156 u157 u158 u159 u160 u161 u162 u163 u164 u165 u166 : Value} (wo w W : World) (hp : p < wo.heap.size) (hww : wo.heap.size <= w.heap.size) (HX : Hid (EvX p wo w W bs m q lo hi (fun o => (#[.string e.id, .string e.sd, .string e.ty, .bool e.st, .string e.key, .int .i64 e.tm, .slice pa e.np cp, .slice aa e.na ca, .string e.val, .slice ga e.ng cg] : Array Value)[o]?.getD undef))) (HR : Hid (∀ W', Kb (w.heap.size + 1) W W' -> DwF p wo W' bs m q -> R (.returned (.agg #[.string e.id, .string e.sd, .string e.ty, .bool e.st, .string e.key, .int .i64 e.tm, .slice pa e.np cp, .slice aa e.na ca, .string e.val, .slice ga e.ng cg])) W')) :
  Code.wp Tryd.prog (tlN (Tryd.f13.body.getD .skip) 5) (bodyPost Tryd.prog Tryd.f13 R) { tmps := #[.pointer (some ⟨p, 0, none⟩), u1, undef, .pointer (some ⟨w.heap.size, 0, none⟩), .pointer (some ⟨w.heap.size + 1, 0, none⟩), u5, u6, u7, u8, u9, u10, u11, u12, u13, u14, u15, u16, u17, u18, u19, u20, u21, u22, u23, u24, u25, u26, u27, u28, u29, u30, u31, u32, u33, u34, u35, u36, u37, u38, u39, u40, u41, u42, u43, u44, u45, u46, u47, u48, u49, u50, u51, u52, u53, u54, u55, u56, u57, u58, u59, u60, u61, u62, u63, u64, u65, u66, u67, u68, u69, u70, u71, u72, u73, u74, u75, u76, u77, u78, u79, u80, u81, u82, u83, u84, u85, u86, u87, u88, u89, u90, u91, u92, u93, u94, u95, u96, u97, u98, u99, u100, u101, u102, u103, u104, u105, u106, u107, u108, u109, u110, u111, u112, u113, u114, u115, u116, u117, u118, u119, u120, u121, u122, u123, u124, u125, u126, u127, u128, u129, u130, u131, u132, u133, u134, u135, u136, u137, u138, u139, u140, u141, u142, u143, u144, u145, u146, u147, u148, u149, u150, u151, u152, u153, u154, u155, u156, u157, u158, u159, u160, u161, u162, u163, u164, u165, u166], defers := [] } W := by
 first
  | rw [show tlN (Tryd.f13.body.getD .skip) 5 = Code.seq _ _ from rfl]
  | rw [show tlN (Tryd.f13.body.getD .skip) 5 = Code.region 41 _ _ from rfl]
 have b0 : W.cell? ⟨w.heap.size, 0, none⟩ = some (.string e.id) := HX.out.b 0 (by decide)
 have b1 : W.cell? ⟨w.heap.size, 1, none⟩ = some (.string e.sd) := HX.out.b 1 (by decide)
 have b2 : W.cell? ⟨w.heap.size, 2, none⟩ = some (.string e.ty) := HX.out.b 2 (by decide)
 have b3 : W.cell? ⟨w.heap.size, 3, none⟩ = some (.bool e.st) := HX.out.b 3 (by decide)
 have b4 : W.cell? ⟨w.heap.size, 4, none⟩ = some (.string e.key) := HX.out.b 4 (by decide)
 have b5 : W.cell? ⟨w.heap.size, 5, none⟩ = some (.int .i64 e.tm) := HX.out.b 5 (by decide)
 have b6 : W.cell? ⟨w.heap.size, 6, none⟩ = some (.slice pa e.np cp) := HX.out.b 6 (by decide)
 have b7 : W.cell? ⟨w.heap.size, 7, none⟩ = some (.slice aa e.na ca) := HX.out.b 7 (by decide)
 have b8 : W.cell? ⟨w.heap.size, 8, none⟩ = some (.string e.val) := HX.out.b 8 (by decide)
 have b9 : W.cell? ⟨w.heap.size, 9, none⟩ = some (.slice ga e.ng cg) := HX.out.b 9 (by decide)
 obtain ⟨v0, z0⟩ := HX.out.z 0 (by decide)
 obtain ⟨v1, z1⟩ := HX.out.z 1 (by decide)
 obtain ⟨v2, z2⟩ := HX.out.z 2 (by decide)
 obtain ⟨v3, z3⟩ := HX.out.z 3 (by decide)
 obtain ⟨v4, z4⟩ := HX.out.z 4 (by decide)
 obtain ⟨v5, z5⟩ := HX.out.z 5 (by decide)
 obtain ⟨v6, z6⟩ := HX.out.z 6 (by decide)
 obtain ⟨v7, z7⟩ := HX.out.z 7 (by decide)
 obtain ⟨v8, z8⟩ := HX.out.z 8 (by decide)
 obtain ⟨v9, z9⟩ := HX.out.z 9 (by decide)
 have f1 := HX.out.f1
 have HD : Hid (DwF p wo W bs m q) := HX.out.dw
 clear HX
 go_wp2
 refine bodyPost_ret (v := .agg #[.string e.id, .string e.sd, .string e.ty, .bool e.st, .string e.key, .int .i64 e.tm, .slice pa e.np cp, .slice aa e.na ca, .string e.val, .slice ga e.ng cg]) (by simp [results, Tryd.results13, go_sem, z0, z1, z2, z3, z4, z5, z6, z7, z8, z9]) rfl (HR.out _ (Kb.fill10 (w.heap.size + 1) W _ _ _ _ _ _ _ _ _ _) ?_)
 (repeat (refine DwF.own ?_ (by omega) hp _ _))
 exact HD.out
end Go.Proofs.YtihacnhmiopalaaDoor
