import Derived.Test.YtpfeegcdlikegaaGreatApKZ
set_option maxHeartbeats 16000000
set_option maxRecDepth 100000
namespace Go.Proofs.YtpfeegcdlikegaaGreat
open Go.RowKit Go.Proofs.Tryz
variable {Kc:Nat->Nat->Prop}{bs:Nat->Nat}{k m q:Nat}{e:Ev}{t:Ls}{od:ByteArray}{R:Ending->World->Prop}{u1 u8 u9 u10 u11 u12 u13 u14 u15 u16 u17 u18 u19 u20 u21 u22 u23 u24 u25 u26 u27 u28 u29 u30 u31 u32 u33 u34 u35 u36 u37 u38 u39 u40 u41 u42 u43 u44 u45 u46 u47 u48 u49 u50 u51 u52 u53 u54 u55 u56 u57 u58 u59 u60 u61 u62 u63 u64 u65 u66 u67 u68 u69 u70 u71 u72 u73 u74 u75 u76 u77 u78 u79 u80 u81 u82 u83 u84 u85 u86 u87 u88 u89 u90 u91 u92 u93 u94 u95 u96 u97 u98 u99 u100 u101 u102 u103 u104 u105 u106 u107 u108 u109 u110 u111 u112 u113 u114 u115 u116 u117 u118 u119 u120 u121 u122 u123 u124 u125 u126 u127 u128 u129 u130 u131 u132 u133 u134 u135 u136 u137 u138 u139 u140 u141 u142 u143 u144 u145 u146 u147 u148 u149 u150 u151 u152 u153 u154 u155 u156 u157 u158 u159 u160 u161 u162 u163 u164 u165 u166:Value}
theorem ag0 (p:Nat){v:Nat}(wo w W:World)(hp:p<wo.heap.size)(O:wo.heap.size<=w.heap.size)(ab:t.hi<=w.heap.size)(hk:k<256)(hc:k % 16=13)(HQ:He (QO W e t))(N:He (fL Kc p wo w W bs m q t.lo t.hi (fun o=>((ec e t.pa t.cp t.aa t.ca t.ga t.cg):Array Value)[o]?.getD undef)))(Z:He (yL Kc p wo w bs m q t.lo t.hi (gD k v e) R)) :
  Code.wp prog (fZ (Tryz.f39.body.getD .skip) 4) (bodyPost prog Tryz.f39 R) { tmps:=#[.pointer (some ⟨p,0,none⟩),u1,undef,.pointer (some ⟨w.heap.size,0,none⟩),.pointer (some ⟨w.heap.size+1,0,none⟩),.int .i64 (k:Int),.int .i64 (v:Int),.string od,u8,u9,u10,u11,u12,u13,u14,u15,u16,u17,u18,u19,u20,u21,u22,u23,u24,u25,u26,u27,u28,u29,u30,u31,u32,u33,u34,u35,u36,u37,u38,u39,u40,u41,u42,u43,u44,u45,u46,u47,u48,u49,u50,u51,u52,u53,u54,u55,u56,u57,u58,u59,u60,u61,u62,u63,u64,u65,u66,u67,u68,u69,u70,u71,u72,u73,u74,u75,u76,u77,u78,u79,u80,u81,u82,u83,u84,u85,u86,u87,u88,u89,u90,u91,u92,u93,u94,u95,u96,u97,u98,u99,u100,u101,u102,u103,u104,u105,u106,u107,u108,u109,u110,u111,u112,u113,u114,u115,u116,u117,u118,u119,u120,u121,u122,u123,u124,u125,u126,u127,u128,u129,u130,u131,u132,u133,u134,u135,u136,u137,u138,u139,u140,u141,u142,u143,u144,u145,u146,u147,u148,u149,u150,u151,u152,u153,u154,u155,u156,u157,u158,u159,u160,u161,u162,u163,u164,u165,u166],defers:=[] } W:=by
 rw [show fZ (Tryz.f39.body.getD .skip) 4=Code.seq _ _ from rfl];obtain ⟨tt,H⟩:∃ tt,tt=MY v:=⟨_,rfl⟩;obtain ⟨I,U⟩:∃ I,I=v % 4:=⟨_,rfl⟩;have ag:(v:Int) % 4=(I:Int):=by omega
 have ah:(0:Int)<=(I:Int):=by omega
 have ae:(I:Int)<4:=by omega
 have aj:(W.alloc (.cells #[.string ⟨#[99,114,101,97,116,101]⟩,.string ⟨#[109,101,109,98,101,114]⟩,.string ⟨#[112,111,119,101,114]⟩,.string ⟨#[106,111,105,110,95,114,117,108,101,115]⟩] 9)).cell? ⟨W.heap.size,I,none⟩=some (.string tt):=by
  rw [kA rfl,H];unfold MY;rw [<- U]
  match I,(by omega:I<4) with
  | 0,_=>rfl
  | 1,_=>rfl
  | 2,_=>rfl
  | 3,_=>rfl
 have Y:tt.size<=maxLen:=by rw [H];exact nZ (JY v) (by decide)
 have ad:gD k v e={ e with ty:=tt }:=by rw [H];unfold gD;simp [hc]
 rw [ad] at Z;clear H U;have ak:(k:Int) % 16=13:=by omega
 have G:Below W.heap.size W (W.alloc (.cells #[.string ⟨#[99,114,101,97,116,101]⟩,.string ⟨#[109,101,109,98,101,114]⟩,.string ⟨#[112,111,119,101,114]⟩,.string ⟨#[106,111,105,110,95,114,117,108,101,115]⟩] 9)):=bA;have bo:(W.alloc (.cells #[.string ⟨#[99,114,101,97,116,101]⟩,.string ⟨#[109,101,109,98,101,114]⟩,.string ⟨#[112,111,119,101,114]⟩,.string ⟨#[106,111,105,110,95,114,117,108,101,115]⟩] 9)).cell? ⟨w.heap.size,2,none⟩=some (.string e.ty):=(N.o.below G).b 2 (by decide);have f0:=(N.o.below G).f0;have ai:=N.o.sz;have ao:W.heap.size≠w.heap.size:=by omega
 have J:He (fL Kc p wo w ((W.alloc (.cells #[.string ⟨#[99,114,101,97,116,101]⟩,.string ⟨#[109,101,109,98,101,114]⟩,.string ⟨#[112,111,119,101,114]⟩,.string ⟨#[106,111,105,110,95,114,117,108,101,115]⟩] 9)).setCell ⟨w.heap.size,2,none⟩ (.string tt)) bs m q t.lo t.hi (fun o=>(#[.string e.id,.string e.sd,.string tt,.bool e.st,.string e.key,.int .i64 e.tm,.slice t.pa e.np t.cp,.slice t.aa e.na t.ca,.string e.val,.slice t.ga e.ng t.cg]:Array Value)[o]?.getD undef)):=((N.o.below G).set hp O 2 (.string tt)).congr (fun o ho=>by
  match o,ho with
  | 0,_=>rfl
  | 1,_=>rfl
  | 2,_=>rfl
  | 3,_=>rfl
  | 4,_=>rfl
  | 5,_=>rfl
  | 6,_=>rfl
  | 7,_=>rfl
  | 8,_=>rfl
  | 9,_=>rfl)
 have u:He (QO ((W.alloc (.cells #[.string ⟨#[99,114,101,97,116,101]⟩,.string ⟨#[109,101,109,98,101,114]⟩,.string ⟨#[112,111,119,101,114]⟩,.string ⟨#[106,111,105,110,95,114,117,108,101,115]⟩] 9)).setCell ⟨w.heap.size,2,none⟩ (.string tt)) e t):=(LK.below HQ.o G).kx ((Kb.refl _ _).set 2 _) (Or.inr ab);clear N HQ G
 go_upto_if 23 with fail
 go_cut [166] (fun _ wx=>wx=((W.alloc (.cells #[.string ⟨#[99,114,101,97,116,101]⟩,.string ⟨#[109,101,109,98,101,114]⟩,.string ⟨#[112,111,119,101,114]⟩,.string ⟨#[106,111,105,110,95,114,117,108,101,115]⟩] 9)).setCell ⟨w.heap.size,2,none⟩ (.string tt)))
 case first =>
  clear J u Z;go_wp2
  go_meet;rfl
 case rest =>
  subst hcut
  apply_assumption
  refine iA p (e:={ e with ty:=tt }) wo w _ hp O J (fun W' hK hD=>Z.o _ _ _ _ _ _ _ W' ?_ (u.o.xe _).1 ((u.o.xe _).2.1) (u.o.xe _).2.2 J.o hK hD);have h:=u.o.j.ok;exact ⟨h.hid,h.hsd,Y,h.hkey,h.hval,h.hp,h.ha,h.hg⟩
theorem YV (p:Nat){v:Nat}(wo w W:World)(hp:p<wo.heap.size)(I:wo.heap.size<=w.heap.size)(N:t.hi<=w.heap.size)(hk:k<256)(hc:k % 16=15)(Y:He (QO W e t))(J:He (fL Kc p wo w W bs m q t.lo t.hi (fun o=>((ec e t.pa t.cp t.aa t.ca t.ga t.cg):Array Value)[o]?.getD undef)))(U:He (yL Kc p wo w bs m q t.lo t.hi (gD k v e) R)) :
  Code.wp prog (fZ (Tryz.f39.body.getD .skip) 4) (bodyPost prog Tryz.f39 R) { tmps:=#[.pointer (some ⟨p,0,none⟩),u1,undef,.pointer (some ⟨w.heap.size,0,none⟩),.pointer (some ⟨w.heap.size+1,0,none⟩),.int .i64 (k:Int),.int .i64 (v:Int),.string od,u8,u9,u10,u11,u12,u13,u14,u15,u16,u17,u18,u19,u20,u21,u22,u23,u24,u25,u26,u27,u28,u29,u30,u31,u32,u33,u34,u35,u36,u37,u38,u39,u40,u41,u42,u43,u44,u45,u46,u47,u48,u49,u50,u51,u52,u53,u54,u55,u56,u57,u58,u59,u60,u61,u62,u63,u64,u65,u66,u67,u68,u69,u70,u71,u72,u73,u74,u75,u76,u77,u78,u79,u80,u81,u82,u83,u84,u85,u86,u87,u88,u89,u90,u91,u92,u93,u94,u95,u96,u97,u98,u99,u100,u101,u102,u103,u104,u105,u106,u107,u108,u109,u110,u111,u112,u113,u114,u115,u116,u117,u118,u119,u120,u121,u122,u123,u124,u125,u126,u127,u128,u129,u130,u131,u132,u133,u134,u135,u136,u137,u138,u139,u140,u141,u142,u143,u144,u145,u146,u147,u148,u149,u150,u151,u152,u153,u154,u155,u156,u157,u158,u159,u160,u161,u162,u163,u164,u165,u166],defers:=[] } W:=by
 rw [show fZ (Tryz.f39.body.getD .skip) 4=Code.seq _ _ from rfl];have O:gD k v e={ e with na:=0 }:=by unfold gD;simp [hc]
 rw [O] at U;have ae:(k:Int) % 16=15:=by omega
 have u:Below W.heap.size W (W.alloc (.cells #[] 9)):=bA;have bo:(W.alloc (.cells #[] 9)).cell? ⟨w.heap.size,7,none⟩=some (.slice t.aa e.na t.ca):=(J.o.below u).b 7 (by decide);have f0:=(J.o.below u).f0;have ab:=J.o.sz;have Z:W.heap.size≠w.heap.size:=by omega
 have H:He (fL Kc p wo w ((W.alloc (.cells #[] 9)).setCell ⟨w.heap.size,7,none⟩ (.slice (some ⟨W.heap.size,0,none⟩) 0 0)) bs m q t.lo t.hi (fun o=>(#[.string e.id,.string e.sd,.string e.ty,.bool e.st,.string e.key,.int .i64 e.tm,.slice t.pa e.np t.cp,.slice (some ⟨W.heap.size,0,none⟩) 0 0,.string e.val,.slice t.ga e.ng t.cg]:Array Value)[o]?.getD undef)):=((J.o.below u).set hp I 7 (.slice (some ⟨W.heap.size,0,none⟩) 0 0)).congr (fun o ho=>by
  match o,ho with
  | 0,_=>rfl
  | 1,_=>rfl
  | 2,_=>rfl
  | 3,_=>rfl
  | 4,_=>rfl
  | 5,_=>rfl
  | 6,_=>rfl
  | 7,_=>rfl
  | 8,_=>rfl
  | 9,_=>rfl)
 have G:He (QO ((W.alloc (.cells #[] 9)).setCell ⟨w.heap.size,7,none⟩ (.slice (some ⟨W.heap.size,0,none⟩) 0 0)) e t):=(LK.below Y.o u).kx ((Kb.refl _ _).set 7 _) (Or.inr N);clear J Y u
 go_upto_if 23 with fail
 go_cut [166] (fun _ wx=>wx=((W.alloc (.cells #[] 9)).setCell ⟨w.heap.size,7,none⟩ (.slice (some ⟨W.heap.size,0,none⟩) 0 0)))
 case first =>
  clear H G U;go_wp2
  go_meet;rfl
 case rest =>
  subst hcut
  apply_assumption
  refine iA p (e:={ e with na:=0 }) wo w _ hp I H (fun W' hK hD=>U.o _ _ _ _ _ _ _ W' ?_ (G.o.xe _).1 (Or.inl rfl) (G.o.xe _).2.2 H.o hK hD);have h:=G.o.j.ok;exact ⟨h.hid,h.hsd,h.hty,h.hkey,h.hval,h.hp,⟨nL,by decide,fun i hi=>absurd hi (Nat.not_lt_zero _),Or.inl rfl⟩,h.hg⟩
variable {W:World}{a:Option Addr}{n cap base:Nat}{S:Nat->ByteArray}
def QX (S:Nat->ByteArray)(n:Nat):Nat->ByteArray:=fun i=>if i<n then S i else S (i - n)
theorem IH (S:Nat->ByteArray)(n:Nat):dT S n ++ dT S n=dT (QX S n) (n+n):=by
 apply List.ext_getElem?;intro i
 by_cases h:i<n
 ·rw [List.getElem?_append_left (by rw [dZ];exact h),gT _ _ _ h,gT _ _ _ (by omega)]
  unfold QX;rw [if_pos h]
 rw [List.getElem?_append_right (by rw [dZ];omega),dZ]
 by_cases u:i<n+n
 ·rw [gT _ _ _ (by omega),gT _ _ _ u]
  unfold QX;rw [if_neg h]
 rw [List.getElem?_eq_none (by rw [dZ];omega),List.getElem?_eq_none (by rw [dZ];omega)]
theorem SM (hn:n<=1000)(I:bU W base (.slice a n cap) n S)(hb:base<=W.heap.size) :
  ∃ a' O w',(Builtin.append_ #[27,27] 27 #[.slice a n cap,.slice a n cap]).run prog W=.ok (.slice a' (n+n) O) w'/\bU w' base (.slice a' (n+n) O) (n+n) (QX S n)/\W.grownBy w' (Value.slice a n cap).ownBlock/\((Value.slice a' (n+n) O).ownBlock=(Value.slice a n cap).ownBlock\/(Value.slice a' (n+n) O).ownBlock=some W.heap.size)/\∀ b o,(Value.slice a n cap).ownBlock=some b->o<n * 1->w'.cell? ⟨b,o,none⟩=W.cell? ⟨b,o,none⟩:=by
 obtain ⟨i0,hi,Z,U,ab⟩:=info_parts Tryz.infoString;rcases cX I with ⟨e,Y⟩|⟨g,am,e,hg,a3,au,hc,hx,hf⟩
 ·subst Y
  injection e with e1 _ e3
  subst e1 e3;exact ⟨none,0,W,run_append_owned_none W base 27 27 9 i0 1 underlying27 hi _ 0 _ I,⟨rfl,Or.inl ⟨rfl,rfl⟩⟩,⟨rfl,rfl,rfl,nL,fun _ _ _=>rfl⟩,Or.inl rfl,fun _ _ _ _=>rfl⟩
 injection e with e1 _ e3
 subst e1 e3
 have J:∀ j u,(dT S n)[j]?=some u->W.cell? ((⟨g,0,none⟩:Addr).add j)=some u:=fun j u hj=>by
  have ax:j<n:=by
   have:=(List.getElem?_eq_some_iff.1 hj).1;rw [dZ] at this;exact this
  rw [Addr.add_lit,<- hj];exact hx j (by omega)
 have N:∀ u ∈ dT S n,u.oneCell'=true:=fun u hu=>by
  obtain ⟨i,_,rfl⟩:=List.mem_map.1 hu;rfl
 rcases Nat.eq_zero_or_pos n with Y|Y
 ·obtain ⟨v',w',H,h2,h3,-,h5⟩:=run_append_own_at (P:=prog) W base 27 27 9 i0 (.string ByteArray.empty) 1 16 underlying27 hi Z U ab rfl (by decide) _ _ _ I ⟨g,0,none⟩ n cap (dT S n) (by rw [dZ,Nat.mul_one]) J N (by unfold maxLen;omega) (by omega) hb
  have G:bU w' base v' (n+n) (QX S n):=by
   unfold bU;rw [<- IH];exact h2
  have hz:∀ b o,(Value.slice (some ⟨g,0,none⟩) n cap).ownBlock=some b->o<n * 1->w'.cell? ⟨b,o,none⟩=W.cell? ⟨b,o,none⟩:=fun b o _ h=>by omega
  rcases cX G with ⟨e',_⟩|⟨g',ak,e',_⟩
  ·subst e'
   subst Y;exact ⟨none,0,w',H,G,h3,h5,hz⟩
  subst e';exact ⟨_,_,w',H,G,h3,h5,hz⟩
 obtain ⟨g',O,w',H,h2,h3,h4,_,h6⟩:=tJ (P:=prog) W 27 27 base 9 i0 (.string ByteArray.empty) 1 16 underlying27 hi Z U ab rfl (by decide) _ _ _ I ⟨g,0,none⟩ n cap (dT S n) (by rw [dZ,Nat.mul_one]) J N Y (by unfold maxLen;omega) (by omega) hb _ rfl;refine ⟨some ⟨g',0,none⟩,O,w',H,?_,h3,h4.imp (fun q=>q.symm) (fun q=>by rw [q];rfl),h6⟩;unfold bU;rw [<- IH];exact h2
theorem b10 (p:Nat){v:Nat}(wo w W:World)(hp:p<wo.heap.size)(ad:wo.heap.size<=w.heap.size)(aj:wo.heap.size<=t.lo)(ap:t.hi<=w.heap.size)(hk:k<256)(hc:k % 16=8)(hna:e.na<=1000)(u:He (QO W e t))(HX:He (fL Kc p wo w W bs m q t.lo t.hi (fun o=>((ec e t.pa t.cp t.aa t.ca t.ga t.cg):Array Value)[o]?.getD undef)))(aq:He (∀ b o,Kc b o->(Value.slice t.aa e.na t.ca).ownBlock=some b->o<e.na * 1))(HR:He (yL Kc p wo w bs m q t.lo t.hi (gD k v e) R)) :
  Code.wp prog (fZ (Tryz.f39.body.getD .skip) 4) (bodyPost prog Tryz.f39 R) { tmps:=#[.pointer (some ⟨p,0,none⟩),u1,undef,.pointer (some ⟨w.heap.size,0,none⟩),.pointer (some ⟨w.heap.size+1,0,none⟩),.int .i64 (k:Int),.int .i64 (v:Int),.string od,u8,u9,u10,u11,u12,u13,u14,u15,u16,u17,u18,u19,u20,u21,u22,u23,u24,u25,u26,u27,u28,u29,u30,u31,u32,u33,u34,u35,u36,u37,u38,u39,u40,u41,u42,u43,u44,u45,u46,u47,u48,u49,u50,u51,u52,u53,u54,u55,u56,u57,u58,u59,u60,u61,u62,u63,u64,u65,u66,u67,u68,u69,u70,u71,u72,u73,u74,u75,u76,u77,u78,u79,u80,u81,u82,u83,u84,u85,u86,u87,u88,u89,u90,u91,u92,u93,u94,u95,u96,u97,u98,u99,u100,u101,u102,u103,u104,u105,u106,u107,u108,u109,u110,u111,u112,u113,u114,u115,u116,u117,u118,u119,u120,u121,u122,u123,u124,u125,u126,u127,u128,u129,u130,u131,u132,u133,u134,u135,u136,u137,u138,u139,u140,u141,u142,u143,u144,u145,u146,u147,u148,u149,u150,u151,u152,u153,u154,u155,u156,u157,u158,u159,u160,u161,u162,u163,u164,u165,u166],defers:=[] } W:=by
 rw [show fZ (Tryz.f39.body.getD .skip) 4=Code.seq _ _ from rfl];have aw:gD k v e={ e with na:=e.na+e.na,Av:=QX e.Av e.na }:=by unfold gD QX;simp [hc]
 rw [aw] at HR;have a8:(k:Int) % 16=8:=by omega
 have b7:W.cell? ⟨w.heap.size,7,none⟩=some (.slice t.aa e.na t.ca):=HX.o.b 7 (by decide);have a3:=HX.o.sz;have ak:t.lo<=W.heap.size:=by have:=u.o.j.hh;omega
 obtain ⟨N,J,O,ah,H,ab,af,ae⟩:=SM hna u.o.a ak;have G:=HX.o.grow hp aj ap ad ab (fun b hb=>Or.inl ⟨(aD u.o.a b hb).1,u.o.h b (Or.inr (Or.inl hb))⟩) (fun b o hK hb=>ae b o hb (aq.o b o hK hb));have y7:O.cell? ⟨w.heap.size,7,none⟩=some (.slice t.aa e.na t.ca):=G.b 7 (by decide);have g7:=G.f0 7
 have Y:He (fL Kc p wo w (O.setCell ⟨w.heap.size,7,none⟩ (.slice N (e.na+e.na) J)) bs m q t.lo t.hi (fun o=>(#[.string e.id,.string e.sd,.string e.ty,.bool e.st,.string e.key,.int .i64 e.tm,.slice t.pa e.np t.cp,.slice N (e.na+e.na) J,.string e.val,.slice t.ga e.ng t.cg]:Array Value)[o]?.getD undef)):=(G.set hp ad 7 _).congr (fun o I=>by
  match o,I with
  | 0,_=>rfl
  | 1,_=>rfl
  | 2,_=>rfl
  | 3,_=>rfl
  | 4,_=>rfl
  | 5,_=>rfl
  | 6,_=>rfl
  | 7,_=>rfl
  | 8,_=>rfl
  | 9,_=>rfl)
 have U:Kb w.heap.size O (O.setCell ⟨w.heap.size,7,none⟩ (.slice N (e.na+e.na) J)):=(Kb.refl _ _).set 7 _
 have HW:He (∀ b,(Value.slice N (e.na+e.na) J).ownBlock=some b->b≠w.heap.size/\t.lo<=b/\(b<t.hi\/w.heap.size+2<=b)):=fun b hb=>by
  have h1:=aD H b hb;rcases af with r|r
  ·have:=u.o.h b (Or.inr (Or.inl (by rw [<- r];exact hb)))
   omega
  rw [hb] at r;injection r with r
  omega
 have kq:∀ b,t.lo<=b->b<t.hi->(Value.slice t.aa e.na t.ca).ownBlock≠some b->(O.setCell ⟨w.heap.size,7,none⟩ (.slice N (e.na+e.na) J)).heap[b]?=W.heap[b]?:=fun b h1 h2 h3=>(U.2 b (by have:=G.sz;omega) (by omega)).trans (ab.block b (by omega) (fun e'=>h3 e'.symm))
 have HA:He (bU (O.setCell ⟨w.heap.size,7,none⟩ (.slice N (e.na+e.na) J)) t.lo (.slice N (e.na+e.na) J) (e.na+e.na) (QX e.Av e.na)):=aM H (fun b hb hl=>U.2 b hl (HW.o b hb).1);have HP:He (bU (O.setCell ⟨w.heap.size,7,none⟩ (.slice N (e.na+e.na) J)) t.lo (.slice t.pa e.np t.cp) e.np e.Pv):=aM u.o.p (fun b hb _=>kq b (aD u.o.p b hb).1 (u.o.h b (Or.inl hb)) (u.o.d b hb));have HG:He (bV (O.setCell ⟨w.heap.size,7,none⟩ (.slice N (e.na+e.na) J)) t.lo (.slice t.ga e.ng t.cg) e.ng e.M e.L):=aM u.o.g (fun b hb _=>kq b (aD u.o.g b hb).1 (u.o.h b (Or.inr (Or.inr hb))) (eW u.o.g u.o.a (by decide) b hb));clear G U kq ab af ae
 go_upto_if 23 with fail
 go_cut [166] (fun _ wx=>wx=(O.setCell ⟨w.heap.size,7,none⟩ (.slice N (e.na+e.na) J)))
 case first =>
  clear HX Y u HR HA HP HG HW H
  go_wp2_with (at_builtin;refine bS rfl _ _ 27 rfl _ _ _ _ ah rfl rfl ?_)
  go_meet;rfl
 case rest =>
  subst hcut;have I:=u.o.j.ok
  apply_assumption
  refine iA p (e:={ e with na:=e.na+e.na,Av:=QX e.Av e.na }) wo w _ hp ad Y (fun W' hK hD=>HR.o _ _ _ _ _ _ _ W' ?_ (u.o.xe _).1 ?_ (u.o.xe _).2.2 Y.o hK hD)
  ·obtain ⟨x1,x2,Z,q1,_⟩:=HP.o.slw I.hp.size
   injection Z with Z _ e3
   rw [<- Z,<- e3] at q1
   obtain ⟨x1,x2,Z,q2,_⟩:=HA.o.slw (fun i hi=>by
    unfold QX;split
    ·exact I.ha.size i (by omega)
    exact I.ha.size _ (by omega))
   injection Z with Z _ e3
   rw [<- Z,<- e3] at q2;exact ⟨I.hid,I.hsd,I.hty,I.hkey,I.hval,q1,q2,HG.o.slg I.hg.size⟩
  rcases iS HA.o nL with h0|⟨b,off,rfl,hb⟩
  ·exact Or.inl h0
  refine Or.inr ⟨b,off,rfl,?_⟩
  have:=HW.o b rfl;rcases this.2.2 with q|q
  ·exact Or.inl ⟨hb,q⟩
  exact Or.inr q
structure yP (Kc:Nat->Nat->Prop)(p:Nat)(wo w W:World)(bs:Nat->Nat)(m q:Nat)(e:Ev)(t:Ls)(i:Nat)(S:Nat->ByteArray)(a:Option Addr)(c:Nat):Prop where
 x:fL Kc p wo w W bs m q t.lo t.hi (fun o=>(#[.string e.id,.string e.sd,.string e.ty,.bool e.st,.string e.key,.int .i64 e.tm,.slice t.pa e.np t.cp,.slice a i c,.string e.val,.slice t.ga e.ng t.cg]:Array Value)[o]?.getD undef)
 a7:bU W t.lo (.slice a i c) i S
 p6:bU W t.lo (.slice t.pa e.np t.cp) e.np e.Pv
 g9:bV W t.lo (.slice t.ga e.ng t.cg) e.ng e.M e.L
 d:∀ b,(Value.slice t.pa e.np t.cp).ownBlock=some b->(Value.slice a i c).ownBlock≠some b
 h:∀ b,(Value.slice a i c).ownBlock=some b->b<t.hi\/w.heap.size+2<=b
 hp:∀ b,(Value.slice t.pa e.np t.cp).ownBlock=some b->b<t.hi
 hg:∀ b,(Value.slice t.ga e.ng t.cg).ownBlock=some b->b<t.hi
 ko:∀ b o,Kc b o->(Value.slice a i c).ownBlock=some b->o<i * 1
section
variable {Kc:Nat->Nat->Prop} {p:Nat} {wo w W:World} {bs:Nat->Nat} {m q:Nat} {e:Ev} {t:Ls} {i:Nat} {S:Nat->ByteArray} {a:Option Addr} {c:Nat}
theorem yP.new (u:QO W e t)(G:∀ b o,Kc b o->(Value.slice t.aa e.na t.ca).ownBlock=some b->o<e.na * 1)(H:fL Kc p wo w W bs m q t.lo t.hi (fun o=>((ec e t.pa t.cp t.aa t.ca t.ga t.cg):Array Value)[o]?.getD undef)):yP Kc p wo w W bs m q e t e.na e.Av t.aa t.ca :=
 ⟨H,u.a,u.p,u.g,u.d,fun b hb=>Or.inl (u.h b (Or.inr (Or.inl hb))),fun b hb=>u.h b (Or.inl hb),fun b hb=>u.h b (Or.inr (Or.inr hb)),G⟩
theorem yP.below (h:yP Kc p wo w W bs m q e t i S a c){W':World}(hb:Below W.heap.size W W'):yP Kc p wo w W' bs m q e t i S a c :=
 ⟨h.x.below hb,h.a7.below hb,h.p6.below hb,h.g9.below hb,h.d,h.h,h.hp,h.hg,h.ko⟩
theorem yP.grow (h:yP Kc p wo w W bs m q e t i S a c)(N:p<wo.heap.size)(G:wo.heap.size<=t.lo)(u:t.hi<=w.heap.size)(I:wo.heap.size<=w.heap.size){X J:World}(O:Below W.heap.size W X)(H:X.grownBy J (Value.slice a i c).ownBlock)(hold:∀ b o,(Value.slice a i c).ownBlock=some b->o<i * 1->J.cell? ⟨b,o,none⟩=X.cell? ⟨b,o,none⟩):fL Kc p wo w J bs m q t.lo t.hi (fun o=>(#[.string e.id,.string e.sd,.string e.ty,.bool e.st,.string e.key,.int .i64 e.tm,.slice t.pa e.np t.cp,.slice a i c,.string e.val,.slice t.ga e.ng t.cg]:Array Value)[o]?.getD undef) :=
 (h.x.below O).grow N G u I H (fun b hb=>(h.h b hb).imp (fun q=>⟨(aD h.a7 b hb).1,q⟩) id) (fun b o hK hb=>hold b o hb (h.ko b o hK hb))
theorem yP.step (h:yP Kc p wo w W bs m q e t i S a c)(Z:p<wo.heap.size)(ad:wo.heap.size<=t.lo)(ae:t.hi<=w.heap.size)(Y:wo.heap.size<=w.heap.size){X G:World}{u cq:Nat}{x:ByteArray}(hX:Below W.heap.size W X)(U:G.ownsRow t.lo 9 1 (.slice (some ⟨u,0,none⟩) (i+1) cq) (i+1) (dT S i ++ [.string x]))(I:X.grownBy G (Value.slice a i c).ownBlock)(hold:∀ b o,(Value.slice a i c).ownBlock=some b->o<i * 1->G.cell? ⟨b,o,none⟩=X.cell? ⟨b,o,none⟩)(J:(Value.slice a i c).ownBlock=some u\/X.heap.size<=u) :
  yP Kc p wo w (G.setCell ⟨w.heap.size,7,none⟩ (.slice (some ⟨u,0,none⟩) (i+1) cq)) bs m q e t (i+1) (bM S i x) (some ⟨u,0,none⟩) cq:=by
 have N:=h.below hX;have ai:=N.x.sz;have O:Kb w.heap.size G (G.setCell ⟨w.heap.size,7,none⟩ (.slice (some ⟨u,0,none⟩) (i+1) cq)):=(Kb.refl _ _).set 7 _
 have af:u<t.hi\/w.heap.size+2<=u:=by
  rcases J with r|r
  ·exact h.h u r
  exact Or.inr (by omega)
 have aj:=I.size;have kq:∀ b,b<X.heap.size->b≠w.heap.size->(Value.slice a i c).ownBlock≠some b->(G.setCell ⟨w.heap.size,7,none⟩ (.slice (some ⟨u,0,none⟩) (i+1) cq)).heap[b]?=X.heap[b]?:=fun b H h2 h3=>(O.2 b (by omega) h2).trans (I.block b H (fun e'=>h3 e'.symm))
 refine ⟨((h.grow Z ad ae Y hX I hold).set Z Y 7 _).congr (fun o ho=>?_),?_,aM N.p6 (fun b hb H=>kq b H (by have:=h.hp b hb;omega) (h.d b hb)),aM N.g9 (fun b hb H=>kq b H (by have:=h.hg b hb;omega) (eW N.g9 N.a7 (by decide) b hb)),fun b hb e'=>?_,fun b hb=>?_,h.hp,h.hg,fun b o hK hb=>?_⟩
 ·match o,ho with
  | 0,_=>rfl
  | 1,_=>rfl
  | 2,_=>rfl
  | 3,_=>rfl
  | 4,_=>rfl
  | 5,_=>rfl
  | 6,_=>rfl
  | 7,_=>rfl
  | 8,_=>rfl
  | 9,_=>rfl
 ·unfold bU
  rw [<- sG];exact aM U (fun b hb H=>O.2 b H (fun e'=>by have hq:u=b:=(by simpa [Value.ownBlock] using hb);omega))
 ·have hq:u=b:=by simpa [Value.ownBlock] using e'
  subst hq;rcases J with r|r
  ·exact h.d _ hb r
  have:=(aD N.p6 _ hb).2;omega
 ·have hq:u=b:=by simpa [Value.ownBlock] using hb
  subst hq;exact af
 have hq:u=b:=by simpa [Value.ownBlock] using hb
 subst hq;rcases J with r|r
 ·have:=h.ko _ o hK r;omega
 have:=(h.x.kc _ o hK).1;omega
end
end Go.Proofs.YtpfeegcdlikegaaGreat
