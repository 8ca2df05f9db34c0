import Derived.Test.YtpfeegcdlikegaaGreatDmSZ
set_option maxHeartbeats 16000000
set_option maxRecDepth 100000
namespace Go.Proofs.YtpfeegcdlikegaaGreat
open Go.RowKit Go.Proofs.Tryz
variable {Kc:Nat->Nat->Prop}{bs:Nat->Nat}{k m q:Nat}{e:Ev}{t:Ls}{od:ByteArray}{R:Ending->World->Prop}{u1 u8 u9 u10 u11 u12 u13 u14 u15 u16 u17 u18 u19 u20 u21 u22 u23 u24 u25 u26 u27 u28 u29 u30 u31 u32 u33 u34 u35 u36 u37 u38 u39 u40 u41 u42 u43 u44 u45 u46 u47 u48 u49 u50 u51 u52 u53 u54 u55 u56 u57 u58 u59 u60 u61 u62 u63 u64 u65 u66 u67 u68 u69 u70 u71 u72 u73 u74 u75 u76 u77 u78 u79 u80 u81 u82 u83 u84 u85 u86 u87 u88 u89 u90 u91 u92 u93 u94 u95 u96 u97 u98 u99 u100 u101 u102 u103 u104 u105 u106 u107 u108 u109 u110 u111 u112 u113 u114 u115 u116 u117 u118 u119 u120 u121 u122 u123 u124 u125 u126 u127 u128 u129 u130 u131 u132 u133 u134 u135 u136 u137 u138 u139 u140 u141 u142 u143 u144 u145 u146 u147 u148 u149 u150 u151 u152 u153 u154 u155 u156 u157 u158 u159 u160 u161 u162 u163 u164 u165 u166:Value}
def yL (Kc:Nat->Nat->Prop)(p:Nat)(wo w:World)(bs:Nat->Nat)(m q lo hi:Nat)(e:Ev)(R:Ending->World->Prop):Prop :=
 ∀ pa cp aa ca ga cg W W',cI W e pa cp aa ca ga cg->GV pa e.np lo hi (w.heap.size+2)->GV aa e.na lo hi (w.heap.size+2)->GV ga e.ng lo hi (w.heap.size+2)->fL Kc p wo w W bs m q lo hi (fun o=>((ec e pa cp aa ca ga cg):Array Value)[o]?.getD undef)->Kb (w.heap.size+1) W W'->bR p wo W' bs m q->R (.returned (.agg (ec e pa cp aa ca ga cg))) W'
theorem bb0 (p:Nat){v:Nat}(wo w W:World)(hp:p<wo.heap.size)(J:wo.heap.size<=w.heap.size)(O:t.hi<=w.heap.size)(hk:k<256)(_hv:v<256)(hc:k % 16=0)(I:He (od=iT v))(Z:He (QO W e t))(N:He (fL Kc p wo w W bs m q t.lo t.hi (fun o=>((ec e t.pa t.cp t.aa t.ca t.ga t.cg):Array Value)[o]?.getD undef)))(Y:He (yL Kc p wo w bs m q t.lo t.hi (gD k v e) R)) :
  Code.wp prog (fZ (Tryz.f39.body.getD .skip) 4) (bodyPost prog Tryz.f39 R) { tmps:=#[.pointer (some ⟨p,0,none⟩),u1,undef,.pointer (some ⟨w.heap.size,0,none⟩),.pointer (some ⟨w.heap.size+1,0,none⟩),.int .i64 (k:Int),.int .i64 (v:Int),.string od,u8,u9,u10,u11,u12,u13,u14,u15,u16,u17,u18,u19,u20,u21,u22,u23,u24,u25,u26,u27,u28,u29,u30,u31,u32,u33,u34,u35,u36,u37,u38,u39,u40,u41,u42,u43,u44,u45,u46,u47,u48,u49,u50,u51,u52,u53,u54,u55,u56,u57,u58,u59,u60,u61,u62,u63,u64,u65,u66,u67,u68,u69,u70,u71,u72,u73,u74,u75,u76,u77,u78,u79,u80,u81,u82,u83,u84,u85,u86,u87,u88,u89,u90,u91,u92,u93,u94,u95,u96,u97,u98,u99,u100,u101,u102,u103,u104,u105,u106,u107,u108,u109,u110,u111,u112,u113,u114,u115,u116,u117,u118,u119,u120,u121,u122,u123,u124,u125,u126,u127,u128,u129,u130,u131,u132,u133,u134,u135,u136,u137,u138,u139,u140,u141,u142,u143,u144,u145,u146,u147,u148,u149,u150,u151,u152,u153,u154,u155,u156,u157,u158,u159,u160,u161,u162,u163,u164,u165,u166],defers:=[] } W:=by
 rw [show fZ (Tryz.f39.body.getD .skip) 4=Code.seq _ _ from rfl];have U:gD k v e={ e with id:=od }:=by unfold gD;simp [hc,I.o]
 rw [U] at Y;have ad:(k:Int) % 16=0:=by omega
 have b0:W.cell? ⟨w.heap.size,0,none⟩=some (.string e.id):=N.o.b 0 (by decide);have f0:=N.o.f0
 have H:He (fL Kc p wo w (W.setCell ⟨w.heap.size,0,none⟩ (.string od)) bs m q t.lo t.hi (fun o=>((ec ({ e with id:=od }:Ev) t.pa t.cp t.aa t.ca t.ga t.cg):Array Value)[o]?.getD undef)):=(N.o.set hp J 0 (.string od)).congr (fun o ho=>by
  match o,ho with
  | 0,_=>rfl
  | 1,_=>rfl
  | 2,_=>rfl
  | 3,_=>rfl
  | 4,_=>rfl
  | 5,_=>rfl
  | 6,_=>rfl
  | 7,_=>rfl
  | 8,_=>rfl
  | 9,_=>rfl)
 have G:He (QO (W.setCell ⟨w.heap.size,0,none⟩ (.string od)) e t):=Z.o.kx ((Kb.refl _ _).set 0 _) (Or.inr O);have u:od.size<=maxLen:=by rw [I.o];exact nZ (eB v) (by decide)
 clear N Z
 go_upto_if 23 with fail
 go_cut [166] (fun _ wx=>wx=W.setCell ⟨w.heap.size,0,none⟩ (.string od))
 case first =>
  clear H G Y;go_wp2
  go_meet
  first|rfl|(congr 2 <;> omega)
 case rest =>
  subst hcut
  apply_assumption
  refine iA p (e:={ e with id:=od }) wo w _ hp J H (fun W' hK hD=>Y.o _ _ _ _ _ _ _ W' ?_ ?_ ?_ ?_ H.o hK hD)
  ·have h:=G.o.j.ok
   exact ⟨by first|exact h.hid|exact u,by first|exact h.hsd|exact u,by first|exact h.hty|exact u,by first|exact h.hkey|exact u,by first|exact h.hval|exact u,h.hp,h.ha,h.hg⟩
  ·exact (G.o.xe _).1
  ·exact (G.o.xe _).2.1
  exact (G.o.xe _).2.2
theorem by0 (p:Nat){v:Nat}(wo w W:World)(hp:p<wo.heap.size)(J:wo.heap.size<=w.heap.size)(O:t.hi<=w.heap.size)(hk:k<256)(_hv:v<256)(hc:k % 16=1)(I:He (od=iT v))(Z:He (QO W e t))(N:He (fL Kc p wo w W bs m q t.lo t.hi (fun o=>((ec e t.pa t.cp t.aa t.ca t.ga t.cg):Array Value)[o]?.getD undef)))(Y:He (yL Kc p wo w bs m q t.lo t.hi (gD k v e) R)) :
  Code.wp prog (fZ (Tryz.f39.body.getD .skip) 4) (bodyPost prog Tryz.f39 R) { tmps:=#[.pointer (some ⟨p,0,none⟩),u1,undef,.pointer (some ⟨w.heap.size,0,none⟩),.pointer (some ⟨w.heap.size+1,0,none⟩),.int .i64 (k:Int),.int .i64 (v:Int),.string od,u8,u9,u10,u11,u12,u13,u14,u15,u16,u17,u18,u19,u20,u21,u22,u23,u24,u25,u26,u27,u28,u29,u30,u31,u32,u33,u34,u35,u36,u37,u38,u39,u40,u41,u42,u43,u44,u45,u46,u47,u48,u49,u50,u51,u52,u53,u54,u55,u56,u57,u58,u59,u60,u61,u62,u63,u64,u65,u66,u67,u68,u69,u70,u71,u72,u73,u74,u75,u76,u77,u78,u79,u80,u81,u82,u83,u84,u85,u86,u87,u88,u89,u90,u91,u92,u93,u94,u95,u96,u97,u98,u99,u100,u101,u102,u103,u104,u105,u106,u107,u108,u109,u110,u111,u112,u113,u114,u115,u116,u117,u118,u119,u120,u121,u122,u123,u124,u125,u126,u127,u128,u129,u130,u131,u132,u133,u134,u135,u136,u137,u138,u139,u140,u141,u142,u143,u144,u145,u146,u147,u148,u149,u150,u151,u152,u153,u154,u155,u156,u157,u158,u159,u160,u161,u162,u163,u164,u165,u166],defers:=[] } W:=by
 rw [show fZ (Tryz.f39.body.getD .skip) 4=Code.seq _ _ from rfl];have U:gD k v e={ e with sd:=od }:=by unfold gD;simp [hc,I.o]
 rw [U] at Y;have ad:(k:Int) % 16=1:=by omega
 have b1:W.cell? ⟨w.heap.size,1,none⟩=some (.string e.sd):=N.o.b 1 (by decide);have f0:=N.o.f0
 have H:He (fL Kc p wo w (W.setCell ⟨w.heap.size,1,none⟩ (.string od)) bs m q t.lo t.hi (fun o=>((ec ({ e with sd:=od }:Ev) t.pa t.cp t.aa t.ca t.ga t.cg):Array Value)[o]?.getD undef)):=(N.o.set hp J 1 (.string od)).congr (fun o ho=>by
  match o,ho with
  | 0,_=>rfl
  | 1,_=>rfl
  | 2,_=>rfl
  | 3,_=>rfl
  | 4,_=>rfl
  | 5,_=>rfl
  | 6,_=>rfl
  | 7,_=>rfl
  | 8,_=>rfl
  | 9,_=>rfl)
 have G:He (QO (W.setCell ⟨w.heap.size,1,none⟩ (.string od)) e t):=Z.o.kx ((Kb.refl _ _).set 1 _) (Or.inr O);have u:od.size<=maxLen:=by rw [I.o];exact nZ (eB v) (by decide)
 clear N Z
 go_upto_if 23 with fail
 go_cut [166] (fun _ wx=>wx=W.setCell ⟨w.heap.size,1,none⟩ (.string od))
 case first =>
  clear H G Y;go_wp2
  go_meet
  first|rfl|(congr 2 <;> omega)
 case rest =>
  subst hcut
  apply_assumption
  refine iA p (e:={ e with sd:=od }) wo w _ hp J H (fun W' hK hD=>Y.o _ _ _ _ _ _ _ W' ?_ ?_ ?_ ?_ H.o hK hD)
  ·have h:=G.o.j.ok
   exact ⟨by first|exact h.hid|exact u,by first|exact h.hsd|exact u,by first|exact h.hty|exact u,by first|exact h.hkey|exact u,by first|exact h.hval|exact u,h.hp,h.ha,h.hg⟩
  ·exact (G.o.xe _).1
  ·exact (G.o.xe _).2.1
  exact (G.o.xe _).2.2
theorem br0 (p:Nat){v:Nat}(wo w W:World)(hp:p<wo.heap.size)(J:wo.heap.size<=w.heap.size)(O:t.hi<=w.heap.size)(hk:k<256)(_hv:v<256)(hc:k % 16=2)(I:He (od=iT v))(Z:He (QO W e t))(N:He (fL Kc p wo w W bs m q t.lo t.hi (fun o=>((ec e t.pa t.cp t.aa t.ca t.ga t.cg):Array Value)[o]?.getD undef)))(Y:He (yL Kc p wo w bs m q t.lo t.hi (gD k v e) R)) :
  Code.wp prog (fZ (Tryz.f39.body.getD .skip) 4) (bodyPost prog Tryz.f39 R) { tmps:=#[.pointer (some ⟨p,0,none⟩),u1,undef,.pointer (some ⟨w.heap.size,0,none⟩),.pointer (some ⟨w.heap.size+1,0,none⟩),.int .i64 (k:Int),.int .i64 (v:Int),.string od,u8,u9,u10,u11,u12,u13,u14,u15,u16,u17,u18,u19,u20,u21,u22,u23,u24,u25,u26,u27,u28,u29,u30,u31,u32,u33,u34,u35,u36,u37,u38,u39,u40,u41,u42,u43,u44,u45,u46,u47,u48,u49,u50,u51,u52,u53,u54,u55,u56,u57,u58,u59,u60,u61,u62,u63,u64,u65,u66,u67,u68,u69,u70,u71,u72,u73,u74,u75,u76,u77,u78,u79,u80,u81,u82,u83,u84,u85,u86,u87,u88,u89,u90,u91,u92,u93,u94,u95,u96,u97,u98,u99,u100,u101,u102,u103,u104,u105,u106,u107,u108,u109,u110,u111,u112,u113,u114,u115,u116,u117,u118,u119,u120,u121,u122,u123,u124,u125,u126,u127,u128,u129,u130,u131,u132,u133,u134,u135,u136,u137,u138,u139,u140,u141,u142,u143,u144,u145,u146,u147,u148,u149,u150,u151,u152,u153,u154,u155,u156,u157,u158,u159,u160,u161,u162,u163,u164,u165,u166],defers:=[] } W:=by
 rw [show fZ (Tryz.f39.body.getD .skip) 4=Code.seq _ _ from rfl];have U:gD k v e={ e with ty:=od }:=by unfold gD;simp [hc,I.o]
 rw [U] at Y;have ad:(k:Int) % 16=2:=by omega
 have b2:W.cell? ⟨w.heap.size,2,none⟩=some (.string e.ty):=N.o.b 2 (by decide);have f0:=N.o.f0
 have H:He (fL Kc p wo w (W.setCell ⟨w.heap.size,2,none⟩ (.string od)) bs m q t.lo t.hi (fun o=>((ec ({ e with ty:=od }:Ev) t.pa t.cp t.aa t.ca t.ga t.cg):Array Value)[o]?.getD undef)):=(N.o.set hp J 2 (.string od)).congr (fun o ho=>by
  match o,ho with
  | 0,_=>rfl
  | 1,_=>rfl
  | 2,_=>rfl
  | 3,_=>rfl
  | 4,_=>rfl
  | 5,_=>rfl
  | 6,_=>rfl
  | 7,_=>rfl
  | 8,_=>rfl
  | 9,_=>rfl)
 have G:He (QO (W.setCell ⟨w.heap.size,2,none⟩ (.string od)) e t):=Z.o.kx ((Kb.refl _ _).set 2 _) (Or.inr O);have u:od.size<=maxLen:=by rw [I.o];exact nZ (eB v) (by decide)
 clear N Z
 go_upto_if 23 with fail
 go_cut [166] (fun _ wx=>wx=W.setCell ⟨w.heap.size,2,none⟩ (.string od))
 case first =>
  clear H G Y;go_wp2
  go_meet
  first|rfl|(congr 2 <;> omega)
 case rest =>
  subst hcut
  apply_assumption
  refine iA p (e:={ e with ty:=od }) wo w _ hp J H (fun W' hK hD=>Y.o _ _ _ _ _ _ _ W' ?_ ?_ ?_ ?_ H.o hK hD)
  ·have h:=G.o.j.ok
   exact ⟨by first|exact h.hid|exact u,by first|exact h.hsd|exact u,by first|exact h.hty|exact u,by first|exact h.hkey|exact u,by first|exact h.hval|exact u,h.hp,h.ha,h.hg⟩
  ·exact (G.o.xe _).1
  ·exact (G.o.xe _).2.1
  exact (G.o.xe _).2.2
theorem aw0 (p:Nat){v:Nat}(wo w W:World)(hp:p<wo.heap.size)(J:wo.heap.size<=w.heap.size)(O:t.hi<=w.heap.size)(hk:k<256)(_hv:v<256)(hc:k % 16=3)(I:He (od=iT v))(Z:He (QO W e t))(N:He (fL Kc p wo w W bs m q t.lo t.hi (fun o=>((ec e t.pa t.cp t.aa t.ca t.ga t.cg):Array Value)[o]?.getD undef)))(Y:He (yL Kc p wo w bs m q t.lo t.hi (gD k v e) R)) :
  Code.wp prog (fZ (Tryz.f39.body.getD .skip) 4) (bodyPost prog Tryz.f39 R) { tmps:=#[.pointer (some ⟨p,0,none⟩),u1,undef,.pointer (some ⟨w.heap.size,0,none⟩),.pointer (some ⟨w.heap.size+1,0,none⟩),.int .i64 (k:Int),.int .i64 (v:Int),.string od,u8,u9,u10,u11,u12,u13,u14,u15,u16,u17,u18,u19,u20,u21,u22,u23,u24,u25,u26,u27,u28,u29,u30,u31,u32,u33,u34,u35,u36,u37,u38,u39,u40,u41,u42,u43,u44,u45,u46,u47,u48,u49,u50,u51,u52,u53,u54,u55,u56,u57,u58,u59,u60,u61,u62,u63,u64,u65,u66,u67,u68,u69,u70,u71,u72,u73,u74,u75,u76,u77,u78,u79,u80,u81,u82,u83,u84,u85,u86,u87,u88,u89,u90,u91,u92,u93,u94,u95,u96,u97,u98,u99,u100,u101,u102,u103,u104,u105,u106,u107,u108,u109,u110,u111,u112,u113,u114,u115,u116,u117,u118,u119,u120,u121,u122,u123,u124,u125,u126,u127,u128,u129,u130,u131,u132,u133,u134,u135,u136,u137,u138,u139,u140,u141,u142,u143,u144,u145,u146,u147,u148,u149,u150,u151,u152,u153,u154,u155,u156,u157,u158,u159,u160,u161,u162,u163,u164,u165,u166],defers:=[] } W:=by
 rw [show fZ (Tryz.f39.body.getD .skip) 4=Code.seq _ _ from rfl];have U:gD k v e={ e with key:=od }:=by unfold gD;simp [hc,I.o]
 rw [U] at Y;have ad:(k:Int) % 16=3:=by omega
 have b4:W.cell? ⟨w.heap.size,4,none⟩=some (.string e.key):=N.o.b 4 (by decide);have f0:=N.o.f0
 have H:He (fL Kc p wo w (W.setCell ⟨w.heap.size,4,none⟩ (.string od)) bs m q t.lo t.hi (fun o=>((ec ({ e with key:=od }:Ev) t.pa t.cp t.aa t.ca t.ga t.cg):Array Value)[o]?.getD undef)):=(N.o.set hp J 4 (.string od)).congr (fun o ho=>by
  match o,ho with
  | 0,_=>rfl
  | 1,_=>rfl
  | 2,_=>rfl
  | 3,_=>rfl
  | 4,_=>rfl
  | 5,_=>rfl
  | 6,_=>rfl
  | 7,_=>rfl
  | 8,_=>rfl
  | 9,_=>rfl)
 have G:He (QO (W.setCell ⟨w.heap.size,4,none⟩ (.string od)) e t):=Z.o.kx ((Kb.refl _ _).set 4 _) (Or.inr O);have u:od.size<=maxLen:=by rw [I.o];exact nZ (eB v) (by decide)
 clear N Z
 go_upto_if 23 with fail
 go_cut [166] (fun _ wx=>wx=W.setCell ⟨w.heap.size,4,none⟩ (.string od))
 case first =>
  clear H G Y;go_wp2
  go_meet
  first|rfl|(congr 2 <;> omega)
 case rest =>
  subst hcut
  apply_assumption
  refine iA p (e:={ e with key:=od }) wo w _ hp J H (fun W' hK hD=>Y.o _ _ _ _ _ _ _ W' ?_ ?_ ?_ ?_ H.o hK hD)
  ·have h:=G.o.j.ok
   exact ⟨by first|exact h.hid|exact u,by first|exact h.hsd|exact u,by first|exact h.hty|exact u,by first|exact h.hkey|exact u,by first|exact h.hval|exact u,h.hp,h.ha,h.hg⟩
  ·exact (G.o.xe _).1
  ·exact (G.o.xe _).2.1
  exact (G.o.xe _).2.2
theorem bq0 (p:Nat){v:Nat}(wo w W:World)(hp:p<wo.heap.size)(I:wo.heap.size<=w.heap.size)(N:t.hi<=w.heap.size)(hk:k<256)(_hv:v<256)(hc:k % 16=4)(O:He (od=iT v))(Z:He (QO W e t))(J:He (fL Kc p wo w W bs m q t.lo t.hi (fun o=>((ec e t.pa t.cp t.aa t.ca t.ga t.cg):Array Value)[o]?.getD undef)))(Y:He (yL Kc p wo w bs m q t.lo t.hi (gD k v e) R)) :
  Code.wp prog (fZ (Tryz.f39.body.getD .skip) 4) (bodyPost prog Tryz.f39 R) { tmps:=#[.pointer (some ⟨p,0,none⟩),u1,undef,.pointer (some ⟨w.heap.size,0,none⟩),.pointer (some ⟨w.heap.size+1,0,none⟩),.int .i64 (k:Int),.int .i64 (v:Int),.string od,u8,u9,u10,u11,u12,u13,u14,u15,u16,u17,u18,u19,u20,u21,u22,u23,u24,u25,u26,u27,u28,u29,u30,u31,u32,u33,u34,u35,u36,u37,u38,u39,u40,u41,u42,u43,u44,u45,u46,u47,u48,u49,u50,u51,u52,u53,u54,u55,u56,u57,u58,u59,u60,u61,u62,u63,u64,u65,u66,u67,u68,u69,u70,u71,u72,u73,u74,u75,u76,u77,u78,u79,u80,u81,u82,u83,u84,u85,u86,u87,u88,u89,u90,u91,u92,u93,u94,u95,u96,u97,u98,u99,u100,u101,u102,u103,u104,u105,u106,u107,u108,u109,u110,u111,u112,u113,u114,u115,u116,u117,u118,u119,u120,u121,u122,u123,u124,u125,u126,u127,u128,u129,u130,u131,u132,u133,u134,u135,u136,u137,u138,u139,u140,u141,u142,u143,u144,u145,u146,u147,u148,u149,u150,u151,u152,u153,u154,u155,u156,u157,u158,u159,u160,u161,u162,u163,u164,u165,u166],defers:=[] } W:=by
 rw [show fZ (Tryz.f39.body.getD .skip) 4=Code.seq _ _ from rfl];have U:gD k v e={ e with st:=!e.st }:=by unfold gD;simp [hc]
 rw [U] at Y;have ad:(k:Int) % 16=4:=by omega
 have b3:W.cell? ⟨w.heap.size,3,none⟩=some (.bool e.st):=J.o.b 3 (by decide);have f0:=J.o.f0
 have H:He (fL Kc p wo w (W.setCell ⟨w.heap.size,3,none⟩ (.bool (!e.st))) bs m q t.lo t.hi (fun o=>((ec ({ e with st:=!e.st }:Ev) t.pa t.cp t.aa t.ca t.ga t.cg):Array Value)[o]?.getD undef)):=(J.o.set hp I 3 (.bool (!e.st))).congr (fun o ho=>by
  match o,ho with
  | 0,_=>rfl
  | 1,_=>rfl
  | 2,_=>rfl
  | 3,_=>rfl
  | 4,_=>rfl
  | 5,_=>rfl
  | 6,_=>rfl
  | 7,_=>rfl
  | 8,_=>rfl
  | 9,_=>rfl)
 have G:He (QO (W.setCell ⟨w.heap.size,3,none⟩ (.bool (!e.st))) e t):=Z.o.kx ((Kb.refl _ _).set 3 _) (Or.inr N);have u:od.size<=maxLen:=by rw [O.o];exact nZ (eB v) (by decide)
 clear J Z
 go_upto_if 23 with fail
 go_cut [166] (fun _ wx=>wx=W.setCell ⟨w.heap.size,3,none⟩ (.bool (!e.st)))
 case first =>
  clear H G Y;go_wp2
  go_meet
  first|rfl|(congr 2 <;> omega)
 case rest =>
  subst hcut
  apply_assumption
  refine iA p (e:={ e with st:=!e.st }) wo w _ hp I H (fun W' hK hD=>Y.o _ _ _ _ _ _ _ W' ?_ ?_ ?_ ?_ H.o hK hD)
  ·have h:=G.o.j.ok
   exact ⟨by first|exact h.hid|exact u,by first|exact h.hsd|exact u,by first|exact h.hty|exact u,by first|exact h.hkey|exact u,by first|exact h.hval|exact u,h.hp,h.ha,h.hg⟩
  ·exact (G.o.xe _).1
  ·exact (G.o.xe _).2.1
  exact (G.o.xe _).2.2
theorem c00 (p:Nat){v:Nat}(wo w W:World)(hp:p<wo.heap.size)(I:wo.heap.size<=w.heap.size)(N:t.hi<=w.heap.size)(hk:k<256)(hv:v<256)(hc:k % 16=5)(O:He (od=iT v))(Z:He (QO W e t))(J:He (fL Kc p wo w W bs m q t.lo t.hi (fun o=>((ec e t.pa t.cp t.aa t.ca t.ga t.cg):Array Value)[o]?.getD undef)))(Y:He (yL Kc p wo w bs m q t.lo t.hi (gD k v e) R)) :
  Code.wp prog (fZ (Tryz.f39.body.getD .skip) 4) (bodyPost prog Tryz.f39 R) { tmps:=#[.pointer (some ⟨p,0,none⟩),u1,undef,.pointer (some ⟨w.heap.size,0,none⟩),.pointer (some ⟨w.heap.size+1,0,none⟩),.int .i64 (k:Int),.int .i64 (v:Int),.string od,u8,u9,u10,u11,u12,u13,u14,u15,u16,u17,u18,u19,u20,u21,u22,u23,u24,u25,u26,u27,u28,u29,u30,u31,u32,u33,u34,u35,u36,u37,u38,u39,u40,u41,u42,u43,u44,u45,u46,u47,u48,u49,u50,u51,u52,u53,u54,u55,u56,u57,u58,u59,u60,u61,u62,u63,u64,u65,u66,u67,u68,u69,u70,u71,u72,u73,u74,u75,u76,u77,u78,u79,u80,u81,u82,u83,u84,u85,u86,u87,u88,u89,u90,u91,u92,u93,u94,u95,u96,u97,u98,u99,u100,u101,u102,u103,u104,u105,u106,u107,u108,u109,u110,u111,u112,u113,u114,u115,u116,u117,u118,u119,u120,u121,u122,u123,u124,u125,u126,u127,u128,u129,u130,u131,u132,u133,u134,u135,u136,u137,u138,u139,u140,u141,u142,u143,u144,u145,u146,u147,u148,u149,u150,u151,u152,u153,u154,u155,u156,u157,u158,u159,u160,u161,u162,u163,u164,u165,u166],defers:=[] } W:=by
 rw [show fZ (Tryz.f39.body.getD .skip) 4=Code.seq _ _ from rfl];have U:gD k v e={ e with tm:=999999999999+(v:Int) % 3 }:=by unfold gD;simp [hc]
 rw [U] at Y;have ad:(k:Int) % 16=5:=by omega
 have b5:W.cell? ⟨w.heap.size,5,none⟩=some (.int .i64 e.tm):=J.o.b 5 (by decide);have f0:=J.o.f0
 have H:He (fL Kc p wo w (W.setCell ⟨w.heap.size,5,none⟩ (.int .i64 (999999999999+(v:Int) % 3))) bs m q t.lo t.hi (fun o=>(#[.string ({ e with tm:=999999999999+(v:Int) % 3 }:Ev).id,.string ({ e with tm:=999999999999+(v:Int) % 3 }:Ev).sd,.string ({ e with tm:=999999999999+(v:Int) % 3 }:Ev).ty,.bool ({ e with tm:=999999999999+(v:Int) % 3 }:Ev).st,.string ({ e with tm:=999999999999+(v:Int) % 3 }:Ev).key,.int .i64 ({ e with tm:=999999999999+(v:Int) % 3 }:Ev).tm,.slice t.pa ({ e with tm:=999999999999+(v:Int) % 3 }:Ev).np t.cp,.slice t.aa ({ e with tm:=999999999999+(v:Int) % 3 }:Ev).na t.ca,.string ({ e with tm:=999999999999+(v:Int) % 3 }:Ev).val,.slice t.ga ({ e with tm:=999999999999+(v:Int) % 3 }:Ev).ng t.cg]:Array Value)[o]?.getD undef)):=(J.o.set hp I 5 (.int .i64 (999999999999+(v:Int) % 3))).congr (fun o ho=>by
  match o,ho with
  | 0,_=>rfl
  | 1,_=>rfl
  | 2,_=>rfl
  | 3,_=>rfl
  | 4,_=>rfl
  | 5,_=>rfl
  | 6,_=>rfl
  | 7,_=>rfl
  | 8,_=>rfl
  | 9,_=>rfl)
 have G:He (QO (W.setCell ⟨w.heap.size,5,none⟩ (.int .i64 (999999999999+(v:Int) % 3))) e t):=Z.o.kx ((Kb.refl _ _).set 5 _) (Or.inr N);have u:od.size<=maxLen:=by rw [O.o];exact nZ (eB v) (by decide)
 clear J Z
 go_upto_if 23 with fail
 go_cut [166] (fun _ wx=>wx=W.setCell ⟨w.heap.size,5,none⟩ (.int .i64 (999999999999+(v:Int) % 3)))
 case first =>
  clear H G Y;go_wp2
  go_meet
  first|rfl|(congr 2 <;> omega)
 case rest =>
  subst hcut
  apply_assumption
  refine iA p (e:={ e with tm:=999999999999+(v:Int) % 3 }) wo w _ hp I H (fun W' hK hD=>Y.o _ _ _ _ _ _ _ W' ?_ ?_ ?_ ?_ H.o hK hD)
  ·have h:=G.o.j.ok
   exact ⟨by first|exact h.hid|exact u,by first|exact h.hsd|exact u,by first|exact h.hty|exact u,by first|exact h.hkey|exact u,by first|exact h.hval|exact u,h.hp,h.ha,h.hg⟩
  ·exact (G.o.xe _).1
  ·exact (G.o.xe _).2.1
  exact (G.o.xe _).2.2
theorem bz0 (p:Nat){v:Nat}(wo w W:World)(hp:p<wo.heap.size)(I:wo.heap.size<=w.heap.size)(N:t.hi<=w.heap.size)(hk:k<256)(hv:v<256)(hc:k % 16=6)(O:He (od=iT v))(Z:He (QO W e t))(J:He (fL Kc p wo w W bs m q t.lo t.hi (fun o=>((ec e t.pa t.cp t.aa t.ca t.ga t.cg):Array Value)[o]?.getD undef)))(Y:He (yL Kc p wo w bs m q t.lo t.hi (gD k v e) R)) :
  Code.wp prog (fZ (Tryz.f39.body.getD .skip) 4) (bodyPost prog Tryz.f39 R) { tmps:=#[.pointer (some ⟨p,0,none⟩),u1,undef,.pointer (some ⟨w.heap.size,0,none⟩),.pointer (some ⟨w.heap.size+1,0,none⟩),.int .i64 (k:Int),.int .i64 (v:Int),.string od,u8,u9,u10,u11,u12,u13,u14,u15,u16,u17,u18,u19,u20,u21,u22,u23,u24,u25,u26,u27,u28,u29,u30,u31,u32,u33,u34,u35,u36,u37,u38,u39,u40,u41,u42,u43,u44,u45,u46,u47,u48,u49,u50,u51,u52,u53,u54,u55,u56,u57,u58,u59,u60,u61,u62,u63,u64,u65,u66,u67,u68,u69,u70,u71,u72,u73,u74,u75,u76,u77,u78,u79,u80,u81,u82,u83,u84,u85,u86,u87,u88,u89,u90,u91,u92,u93,u94,u95,u96,u97,u98,u99,u100,u101,u102,u103,u104,u105,u106,u107,u108,u109,u110,u111,u112,u113,u114,u115,u116,u117,u118,u119,u120,u121,u122,u123,u124,u125,u126,u127,u128,u129,u130,u131,u132,u133,u134,u135,u136,u137,u138,u139,u140,u141,u142,u143,u144,u145,u146,u147,u148,u149,u150,u151,u152,u153,u154,u155,u156,u157,u158,u159,u160,u161,u162,u163,u164,u165,u166],defers:=[] } W:=by
 rw [show fZ (Tryz.f39.body.getD .skip) 4=Code.seq _ _ from rfl];have U:gD k v e={ e with tm:=-(v:Int) }:=by unfold gD;simp [hc]
 rw [U] at Y;have ad:(k:Int) % 16=6:=by omega
 have b5:W.cell? ⟨w.heap.size,5,none⟩=some (.int .i64 e.tm):=J.o.b 5 (by decide);have f0:=J.o.f0
 have H:He (fL Kc p wo w (W.setCell ⟨w.heap.size,5,none⟩ (.int .i64 (-(v:Int)))) bs m q t.lo t.hi (fun o=>(#[.string ({ e with tm:=-(v:Int) }:Ev).id,.string ({ e with tm:=-(v:Int) }:Ev).sd,.string ({ e with tm:=-(v:Int) }:Ev).ty,.bool ({ e with tm:=-(v:Int) }:Ev).st,.string ({ e with tm:=-(v:Int) }:Ev).key,.int .i64 ({ e with tm:=-(v:Int) }:Ev).tm,.slice t.pa ({ e with tm:=-(v:Int) }:Ev).np t.cp,.slice t.aa ({ e with tm:=-(v:Int) }:Ev).na t.ca,.string ({ e with tm:=-(v:Int) }:Ev).val,.slice t.ga ({ e with tm:=-(v:Int) }:Ev).ng t.cg]:Array Value)[o]?.getD undef)):=(J.o.set hp I 5 (.int .i64 (-(v:Int)))).congr (fun o ho=>by
  match o,ho with
  | 0,_=>rfl
  | 1,_=>rfl
  | 2,_=>rfl
  | 3,_=>rfl
  | 4,_=>rfl
  | 5,_=>rfl
  | 6,_=>rfl
  | 7,_=>rfl
  | 8,_=>rfl
  | 9,_=>rfl)
 have G:He (QO (W.setCell ⟨w.heap.size,5,none⟩ (.int .i64 (-(v:Int)))) e t):=Z.o.kx ((Kb.refl _ _).set 5 _) (Or.inr N);have u:od.size<=maxLen:=by rw [O.o];exact nZ (eB v) (by decide)
 clear J Z
 go_upto_if 23 with fail
 go_cut [166] (fun _ wx=>wx=W.setCell ⟨w.heap.size,5,none⟩ (.int .i64 (-(v:Int))))
 case first =>
  clear H G Y;go_wp2
  go_meet
  first|rfl|(congr 2 <;> omega)
 case rest =>
  subst hcut
  apply_assumption
  refine iA p (e:={ e with tm:=-(v:Int) }) wo w _ hp I H (fun W' hK hD=>Y.o _ _ _ _ _ _ _ W' ?_ ?_ ?_ ?_ H.o hK hD)
  ·have h:=G.o.j.ok
   exact ⟨by first|exact h.hid|exact u,by first|exact h.hsd|exact u,by first|exact h.hty|exact u,by first|exact h.hkey|exact u,by first|exact h.hval|exact u,h.hp,h.ha,h.hg⟩
  ·exact (G.o.xe _).1
  ·exact (G.o.xe _).2.1
  exact (G.o.xe _).2.2
theorem YS (p:Nat){v:Nat}(wo w W:World)(hp:p<wo.heap.size)(J:wo.heap.size<=w.heap.size)(O:t.hi<=w.heap.size)(hk:k<256)(_hv:v<256)(hc:k % 16=11)(I:He (od=iT v))(Z:He (QO W e t))(N:He (fL Kc p wo w W bs m q t.lo t.hi (fun o=>((ec e t.pa t.cp t.aa t.ca t.ga t.cg):Array Value)[o]?.getD undef)))(Y:He (yL Kc p wo w bs m q t.lo t.hi (gD k v e) R)) :
  Code.wp prog (fZ (Tryz.f39.body.getD .skip) 4) (bodyPost prog Tryz.f39 R) { tmps:=#[.pointer (some ⟨p,0,none⟩),u1,undef,.pointer (some ⟨w.heap.size,0,none⟩),.pointer (some ⟨w.heap.size+1,0,none⟩),.int .i64 (k:Int),.int .i64 (v:Int),.string od,u8,u9,u10,u11,u12,u13,u14,u15,u16,u17,u18,u19,u20,u21,u22,u23,u24,u25,u26,u27,u28,u29,u30,u31,u32,u33,u34,u35,u36,u37,u38,u39,u40,u41,u42,u43,u44,u45,u46,u47,u48,u49,u50,u51,u52,u53,u54,u55,u56,u57,u58,u59,u60,u61,u62,u63,u64,u65,u66,u67,u68,u69,u70,u71,u72,u73,u74,u75,u76,u77,u78,u79,u80,u81,u82,u83,u84,u85,u86,u87,u88,u89,u90,u91,u92,u93,u94,u95,u96,u97,u98,u99,u100,u101,u102,u103,u104,u105,u106,u107,u108,u109,u110,u111,u112,u113,u114,u115,u116,u117,u118,u119,u120,u121,u122,u123,u124,u125,u126,u127,u128,u129,u130,u131,u132,u133,u134,u135,u136,u137,u138,u139,u140,u141,u142,u143,u144,u145,u146,u147,u148,u149,u150,u151,u152,u153,u154,u155,u156,u157,u158,u159,u160,u161,u162,u163,u164,u165,u166],defers:=[] } W:=by
 rw [show fZ (Tryz.f39.body.getD .skip) 4=Code.seq _ _ from rfl];have U:gD k v e={ e with val:=od }:=by unfold gD;simp [hc,I.o]
 rw [U] at Y;have ad:(k:Int) % 16=11:=by omega
 have b8:W.cell? ⟨w.heap.size,8,none⟩=some (.string e.val):=N.o.b 8 (by decide);have f0:=N.o.f0
 have H:He (fL Kc p wo w (W.setCell ⟨w.heap.size,8,none⟩ (.string od)) bs m q t.lo t.hi (fun o=>((ec ({ e with val:=od }:Ev) t.pa t.cp t.aa t.ca t.ga t.cg):Array Value)[o]?.getD undef)):=(N.o.set hp J 8 (.string od)).congr (fun o ho=>by
  match o,ho with
  | 0,_=>rfl
  | 1,_=>rfl
  | 2,_=>rfl
  | 3,_=>rfl
  | 4,_=>rfl
  | 5,_=>rfl
  | 6,_=>rfl
  | 7,_=>rfl
  | 8,_=>rfl
  | 9,_=>rfl)
 have G:He (QO (W.setCell ⟨w.heap.size,8,none⟩ (.string od)) e t):=Z.o.kx ((Kb.refl _ _).set 8 _) (Or.inr O);have u:od.size<=maxLen:=by rw [I.o];exact nZ (eB v) (by decide)
 clear N Z
 go_upto_if 23 with fail
 go_cut [166] (fun _ wx=>wx=W.setCell ⟨w.heap.size,8,none⟩ (.string od))
 case first =>
  clear H G Y;go_wp2
  go_meet
  first|rfl|(congr 2 <;> omega)
 case rest =>
  subst hcut
  apply_assumption
  refine iA p (e:={ e with val:=od }) wo w _ hp J H (fun W' hK hD=>Y.o _ _ _ _ _ _ _ W' ?_ ?_ ?_ ?_ H.o hK hD)
  ·have h:=G.o.j.ok
   exact ⟨by first|exact h.hid|exact u,by first|exact h.hsd|exact u,by first|exact h.hty|exact u,by first|exact h.hkey|exact u,by first|exact h.hval|exact u,h.hp,h.ha,h.hg⟩
  ·exact (G.o.xe _).1
  ·exact (G.o.xe _).2.1
  exact (G.o.xe _).2.2
end Go.Proofs.YtpfeegcdlikegaaGreat
