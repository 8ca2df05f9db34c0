import Derived.Test.YtpfeegcdlikegaaGreatLdM
set_option maxHeartbeats 16000000
set_option maxRecDepth 100000
namespace Go.Proofs.YtpfeegcdlikegaaGreat
open Go.RowKit Go.Proofs.Tryz
variable {k m n p q rb rc sc:Nat}{Ca bs:Nat->Nat}{E:Nat->Ev}{T:Nat->Ls}{A:Nat->List aE}{Aa:Nat->Option Addr}{sa:Option Addr}{s:List aE}{u1 u3 u6 u12 u13 u14 u15 u16 u17 u18 u19 u20 u21 u22 u23 u24 u25 u26 u27 u28 u29 u30 u31 u32 u33 u34 u35 u36 u37 u38 u39 u40 u41 u42 u43 u44 u45 u46 u47 u48 u49 u50 u51 u52 u53 u54 u55 u56 u57 u58 u59 u60 u61 u62 u63 u64 u65 u66 u67 u68 u69 u70 u71 u72 u73 u74 u75 u76 u77 u78 u79 u80 u81 u82 u83 u84 u85 u86 u87 u88 u89 u90 u91 u92 u93 u94 u95 u96 u97 u98 u99 u100 u101 u102 u103 u104 u105 u106 u107 u108 u109 u110 u111 u112 u113 u114 u115 u116 u117 u118 u119:Value}
theorem ldA {v R sg sgc:Nat}(w w3 wz W:World)(u:He (EG p w w3 wz R rb rc n E T sg sgc A Aa Ca))(G:He (jA p w wz W bs m q R (.slice (some ⟨rb,0,none⟩) n rc) (.slice sa s.length sc) s)) :
  Code.wp prog (fZ (Tryz.f11.body.getD .skip) 9) (bodyPost prog Tryz.f11 (UH p w)) { tmps:=#[.pointer (some ⟨p,0,none⟩),u1,.pointer (some ⟨w.heap.size,0,none⟩),u3,.pointer (some ⟨w.heap.size+1,0,none⟩),.int .i64 (k:Int),u6,.int .i64 (v:Int),.pointer (some ⟨R,0,none⟩),.slice (some ⟨sg,0,none⟩) n sgc,.int .i64 (n:Int),.slice sa s.length sc,u12,u13,u14,u15,u16,u17,u18,u19,u20,u21,u22,u23,u24,u25,u26,u27,u28,u29,u30,u31,u32,u33,u34,u35,u36,u37,u38,u39,u40,u41,u42,u43,u44,u45,u46,u47,u48,u49,u50,u51,u52,u53,u54,u55,u56,u57,u58,u59,u60,u61,u62,u63,u64,u65,u66,u67,u68,u69,u70,u71,u72,u73,u74,u75,u76,u77,u78,u79,u80,u81,u82,u83,u84,u85,u86,u87,u88,u89,u90,u91,u92,u93,u94,u95,u96,u97,u98,u99,u100,u101,u102,u103,u104,u105,u106,u107,u108,u109,u110,u111,u112,u113,u114,u115,u116,u117,u118,u119],defers:=[] } W:=by
 rw [show fZ (Tryz.f11.body.getD .skip) 9=Code.seq _ _ from rfl];have hp:=u.o.hp;have n0:=u.o.n0;have Y:=G.o.r;have H:n<=maxLen:=by have:=u.o.az.at;omega
 have O:He (Calls prog 37 #[.pointer (some ⟨p,0,none⟩),.agg #[.slice (some ⟨rb,0,none⟩) n rc],.slice (some ⟨sg,0,none⟩) n sgc] W (pT p W bs m q E n A)):=ZH p W G.o.dw.1 n0 u.o.room nL H u.o.fit (u.o.gw G.o.kp);clear H
 go_upto_region 14 with fail
 dsimp only
 go_cut [14] (fun x wx=>∃ V e pa cp aa ca ga cg q,x=.pointer (some ⟨V,0,none⟩)/\He (vQ p w w3 wx bs m q R V rb rc n E T sa sc s/\(∀ o,o<10->wx.cell? ⟨V,o,none⟩=some (((ec e pa cp aa ca ga cg):Array Value)[o]?.getD undef))/\yN (fun b=>PV w R V b/\(Value.slice sa s.length sc).ownBlock≠some b) wx e pa cp aa ca ga cg))
 case first =>
  go_wp2_with fail
  refine O.o.mono ?_;rintro x Z ⟨e,pa,cp,aa,ca,ga,cg,-,rfl,I,-,U,J⟩;clear O Y;have N:He (_):=RT (te:=30) u.o G.o I U J;clear u G I U J
  go_wp2_with fail
  go_meet;exact ⟨_,e,_,_,_,_,_,_,_,rfl,N⟩
 case rest =>
  obtain ⟨V,e,pa,cp,aa,ca,ga,cg,q,rfl,N⟩:=hcut;clear O u G Y
  apply_assumption
  exact ldC w w3 _ hp n0 N.o.1 N.o.2.1 N.o.2.2
theorem ldB {v R sg sgc:Nat}(w w3 wz W:World)(au:s.length<=300)(Y:He (EG p w w3 wz R rb rc n E T sg sgc A Aa Ca))(I:He (jA p w wz W bs m q R (.slice (some ⟨rb,0,none⟩) n rc) (.slice sa s.length sc) s)) :
  Code.wp prog (fZ (Tryz.f11.body.getD .skip) 8) (bodyPost prog Tryz.f11 (UH p w)) { tmps:=#[.pointer (some ⟨p,0,none⟩),u1,.pointer (some ⟨w.heap.size,0,none⟩),u3,.pointer (some ⟨w.heap.size+1,0,none⟩),.int .i64 (k:Int),u6,.int .i64 (v:Int),.pointer (some ⟨R,0,none⟩),.slice (some ⟨sg,0,none⟩) n sgc,.int .i64 (n:Int),.slice sa s.length sc,u12,u13,u14,u15,u16,u17,u18,u19,u20,u21,u22,u23,u24,u25,u26,u27,u28,u29,u30,u31,u32,u33,u34,u35,u36,u37,u38,u39,u40,u41,u42,u43,u44,u45,u46,u47,u48,u49,u50,u51,u52,u53,u54,u55,u56,u57,u58,u59,u60,u61,u62,u63,u64,u65,u66,u67,u68,u69,u70,u71,u72,u73,u74,u75,u76,u77,u78,u79,u80,u81,u82,u83,u84,u85,u86,u87,u88,u89,u90,u91,u92,u93,u94,u95,u96,u97,u98,u99,u100,u101,u102,u103,u104,u105,u106,u107,u108,u109,u110,u111,u112,u113,u114,u115,u116,u117,u118,u119],defers:=[] } W:=by
 rw [show fZ (Tryz.f11.body.getD .skip) 8=Code.seq _ _ from rfl]
 go_upto_if 63 with fail
 go_cut [11] (fun x wx=>∃ sa sc s,x=.slice sa (List.length s) sc/\He (jA p w wz wx bs m q R (.slice (some ⟨rb,0,none⟩) n rc) (.slice sa (List.length s) sc) s))
 case first =>
  by_cases c2:(k:Int) % 4=2
  ·go_wp2_with fail
   go_cut [13] (fun x wx=>x=.pointer (some ⟨W.heap.size,0,none⟩)/\∃ j,j<n/\He (jA p w wz wx bs m q R (.slice (some ⟨rb,0,none⟩) n rc) (.slice sa s.length sc) s/\∀ o,o<10->wx.cell? ⟨W.heap.size,o,none⟩=some ((#[.string (E j).id,.string (E j).sd,.string (E j).ty,.bool (E j).st,.string (E j).key,.int .i64 (E j).tm,.slice (T j).pa (E j).np (T j).cp,.slice (T j).aa (E j).na (T j).ca,.string (E j).val,.slice (T j).ga (E j).ng (T j).cg]:Array Value)[o]?.getD undef)))
   case first =>
    obtain ⟨j,hj⟩:∃ j,j=v % n:=⟨_,rfl⟩;have n0:=Y.o.n0;have G:j<n:=by rw [hj];exact Nat.mod_lt _ n0
    have aw:¬ n=0:=by omega
    have aj:(v:Int).tmod (n:Int)=(j:Int):=by rw [Int.tmod_eq_emod_of_nonneg (by omega),hj];exact (Int.natCast_emod v n).symm
    clear hj;have Z:He (_/\_):=I.o.lr;have N:∀ ob,Below W.heap.size W (W.alloc ob):=fun ob=>bA
    have ah:He (jA p w wz (W.alloc (.cells #[.string (E j).id,.string (E j).sd,.string (E j).ty,.bool (E j).st,.string (E j).key,.int .i64 (E j).tm,.slice (T j).pa (E j).np (T j).cp,.slice (T j).aa (E j).na (T j).ca,.string (E j).val,.slice (T j).ga (E j).ng (T j).cg] 30)).drew bs m q R (.slice (some ⟨rb,0,none⟩) n rc) (.slice sa s.length sc) s):=(I.o.below (N _)).drew
    have HY:He (∀ o,o<10->(W.alloc (.cells #[.string (E j).id,.string (E j).sd,.string (E j).ty,.bool (E j).st,.string (E j).key,.int .i64 (E j).tm,.slice (T j).pa (E j).np (T j).cp,.slice (T j).aa (E j).na (T j).ca,.string (E j).val,.slice (T j).ga (E j).ng (T j).cg] 30)).drew.cell? ⟨W.heap.size,o,none⟩=some ((#[.string (E j).id,.string (E j).sd,.string (E j).ty,.bool (E j).st,.string (E j).key,.int .i64 (E j).tm,.slice (T j).pa (E j).np (T j).cp,.slice (T j).aa (E j).na (T j).ca,.string (E j).val,.slice (T j).ga (E j).ng (T j).cg]:Array Value)[o]?.getD undef)):=fun o ho=>by
     rw [uR,kA rfl]
     match o,ho with
     | 0,_=>rfl
     | 1,_=>rfl
     | 2,_=>rfl
     | 3,_=>rfl
     | 4,_=>rfl
     | 5,_=>rfl
     | 6,_=>rfl
     | 7,_=>rfl
     | 8,_=>rfl
     | 9,_=>rfl
    have u:=Y.o.rv I.o.kp;have H:=u.at uF;have ab:He (_):=H.1
    have HS:He (∀ X,KP (fun b=>b≠W.heap.size) W X->(fun X=>X.cell? ⟨R,0,none⟩=some (.slice (some ⟨rb,0,none⟩) n rc)/\X.cell? ⟨rb,j * 10,none⟩=some (.string (E j).id)/\X.cell? ⟨rb,j * 10+1,none⟩=some (.string (E j).sd)/\X.cell? ⟨rb,j * 10+2,none⟩=some (.string (E j).ty)/\X.cell? ⟨rb,j * 10+3,none⟩=some (.bool (E j).st)/\X.cell? ⟨rb,j * 10+4,none⟩=some (.string (E j).key)/\X.cell? ⟨rb,j * 10+5,none⟩=some (.int .i64 (E j).tm)/\X.cell? ⟨rb,j * 10+6,none⟩=some (.slice (T j).pa (E j).np (T j).cp)/\X.cell? ⟨rb,j * 10+7,none⟩=some (.slice (T j).aa (E j).na (T j).ca)/\X.cell? ⟨rb,j * 10+8,none⟩=some (.string (E j).val)/\X.cell? ⟨rb,j * 10+9,none⟩=some (.slice (T j).ga (E j).ng (T j).cg)) X):=fun X hX=>by
     obtain ⟨d0,d1,d2,d3,d4,d5,d6,d7,d8,d9⟩:=H.2.2.2 j G;have J:∀ o,X.cell? ⟨rb,o,none⟩=W.cell? ⟨rb,o,none⟩:=fun o=>hX.cell (by have:=ab.o;omega) ab.o
     exact ⟨(hX.cell (by have:=Z.o;omega) Z.o.2).trans I.o.r,(J _).trans d0,(J _).trans d1,(J _).trans d2,(J _).trans d3,(J _).trans d4,(J _).trans d5,(J _).trans d6,(J _).trans d7,(J _).trans d8,(J _).trans d9⟩
    have ak:He ((fun X=>X.cell? ⟨R,0,none⟩=some (.slice (some ⟨rb,0,none⟩) n rc)/\X.cell? ⟨rb,j * 10,none⟩=some (.string (E j).id)/\X.cell? ⟨rb,j * 10+1,none⟩=some (.string (E j).sd)/\X.cell? ⟨rb,j * 10+2,none⟩=some (.string (E j).ty)/\X.cell? ⟨rb,j * 10+3,none⟩=some (.bool (E j).st)/\X.cell? ⟨rb,j * 10+4,none⟩=some (.string (E j).key)/\X.cell? ⟨rb,j * 10+5,none⟩=some (.int .i64 (E j).tm)/\X.cell? ⟨rb,j * 10+6,none⟩=some (.slice (T j).pa (E j).np (T j).cp)/\X.cell? ⟨rb,j * 10+7,none⟩=some (.slice (T j).aa (E j).na (T j).ca)/\X.cell? ⟨rb,j * 10+8,none⟩=some (.string (E j).val)/\X.cell? ⟨rb,j * 10+9,none⟩=some (.slice (T j).ga (E j).ng (T j).cg)) W.drew):=HS.o _ (KP.refl _ _).drew;have ai:He ((fun X=>X.cell? ⟨R,0,none⟩=some (.slice (some ⟨rb,0,none⟩) n rc)/\X.cell? ⟨rb,j * 10,none⟩=some (.string (E j).id)/\X.cell? ⟨rb,j * 10+1,none⟩=some (.string (E j).sd)/\X.cell? ⟨rb,j * 10+2,none⟩=some (.string (E j).ty)/\X.cell? ⟨rb,j * 10+3,none⟩=some (.bool (E j).st)/\X.cell? ⟨rb,j * 10+4,none⟩=some (.string (E j).key)/\X.cell? ⟨rb,j * 10+5,none⟩=some (.int .i64 (E j).tm)/\X.cell? ⟨rb,j * 10+6,none⟩=some (.slice (T j).pa (E j).np (T j).cp)/\X.cell? ⟨rb,j * 10+7,none⟩=some (.slice (T j).aa (E j).na (T j).ca)/\X.cell? ⟨rb,j * 10+8,none⟩=some (.string (E j).val)/\X.cell? ⟨rb,j * 10+9,none⟩=some (.slice (T j).ga (E j).ng (T j).cg)) (W.alloc (.cells #[.string ⟨#[]⟩,.string ⟨#[]⟩,.string ⟨#[]⟩,.bool false,.string ⟨#[]⟩,.int .i64 0,.slice none 0 0,.slice none 0 0,.string ⟨#[]⟩,.slice none 0 0] 30)).drew):=HS.o _ (KP.drew (KP.blw (N _)));have ap:He ((fun X=>X.cell? ⟨R,0,none⟩=some (.slice (some ⟨rb,0,none⟩) n rc)/\X.cell? ⟨rb,j * 10,none⟩=some (.string (E j).id)/\X.cell? ⟨rb,j * 10+1,none⟩=some (.string (E j).sd)/\X.cell? ⟨rb,j * 10+2,none⟩=some (.string (E j).ty)/\X.cell? ⟨rb,j * 10+3,none⟩=some (.bool (E j).st)/\X.cell? ⟨rb,j * 10+4,none⟩=some (.string (E j).key)/\X.cell? ⟨rb,j * 10+5,none⟩=some (.int .i64 (E j).tm)/\X.cell? ⟨rb,j * 10+6,none⟩=some (.slice (T j).pa (E j).np (T j).cp)/\X.cell? ⟨rb,j * 10+7,none⟩=some (.slice (T j).aa (E j).na (T j).ca)/\X.cell? ⟨rb,j * 10+8,none⟩=some (.string (E j).val)/\X.cell? ⟨rb,j * 10+9,none⟩=some (.slice (T j).ga (E j).ng (T j).cg)) (W.alloc (.cells #[.string (E j).id,.string (E j).sd,.string (E j).ty,.bool (E j).st,.string (E j).key,.int .i64 (E j).tm,.slice (T j).pa (E j).np (T j).cp,.slice (T j).aa (E j).na (T j).ca,.string (E j).val,.slice (T j).ga (E j).ng (T j).cg] 30)).drew):=HS.o _ (KP.drew (KP.blw (N _)));have am:=I.o.r;have bc:=H.2.2.1.le;have af:=H.2.2.1.max;unfold maxLen at af;have j0:(0:Int)<=(j:Int):=by omega
    have j1:(j:Int)<(n:Int):=by omega
    clear H u N;clear Y I am Z ab HS;refine wp_region_held_drew (S:=fun X=>X.cell? ⟨R,0,none⟩=some (.slice (some ⟨rb,0,none⟩) n rc)/\X.cell? ⟨rb,j * 10,none⟩=some (.string (E j).id)/\X.cell? ⟨rb,j * 10+1,none⟩=some (.string (E j).sd)/\X.cell? ⟨rb,j * 10+2,none⟩=some (.string (E j).ty)/\X.cell? ⟨rb,j * 10+3,none⟩=some (.bool (E j).st)/\X.cell? ⟨rb,j * 10+4,none⟩=some (.string (E j).key)/\X.cell? ⟨rb,j * 10+5,none⟩=some (.int .i64 (E j).tm)/\X.cell? ⟨rb,j * 10+6,none⟩=some (.slice (T j).pa (E j).np (T j).cp)/\X.cell? ⟨rb,j * 10+7,none⟩=some (.slice (T j).aa (E j).na (T j).ca)/\X.cell? ⟨rb,j * 10+8,none⟩=some (.string (E j).val)/\X.cell? ⟨rb,j * 10+9,none⟩=some (.slice (T j).ga (E j).ng (T j).cg)) (by kernel_rfl) ?_ (fun hHeld=>?_)
    ·(try dsimp only);exact ak.o
    refine tq 0 rfl ?_;simp only [si];refine tq 1 rfl ?_;simp only [si];refine tq 2 rfl ?_;simp only [si];refine tq 3 rfl ?_;simp only [si];refine wpAnyH_take (i:=4) (v:=.int .i64 (j:Int)) rfl (by kernel_rfl) (by kernel_rfl) (by kernel_rfl) (fun _ _ _ h=>h) (Or.inl ⟨by rfl,?hm12⟩) (by assumption) ?_
    case hm12=>(intro w h;(try dsimp only at h);go_simp;try rw [if_neg aw,aj])
    simp only [si];refine tq 5 rfl ?_;simp only [si];refine tq 6 rfl ?_;simp only [si];refine rd 7 rfl fun K hK=>?_
    go_simp;refine hK.out _ _ ?_ (fun hHeld=>?_)
    ·(try dsimp only);exact ai.o
    clear hK K;try simp only [si]
    refine rd 8 rfl fun K hK=>?_
    go_simp;refine hK.out _ _ ?_ (fun hHeld=>?_)
    ·(try dsimp only);exact ap.o
    clear hK K;try simp only [si]
    refine wpAnyH_done (by kernel_rfl) ?_ _
    (try go_wp2_with fail)
    go_meet;exact ⟨rfl,j,G,ah.o,HY.o⟩
   case rest =>
    obtain ⟨rfl,j,G,U⟩:=hcut;have u:=Y.o.rv I.o.kp;have HO:He (((E j).ty.size<=maxLen/\(E j).key.size<=maxLen/\(E j).id.size<=maxLen)):=⟨(u.q j G).j.ok.hty,(u.q j G).j.ok.hkey,(u.q j G).j.ok.hid⟩;clear u;obtain ⟨O,an⟩:∃ O:World,O=wc:=⟨_,rfl⟩;subst an;have x0:O.cell? ⟨W.heap.size,0,none⟩=some (.string (E j).id):=U.o.2 0 (by decide);have x2:O.cell? ⟨W.heap.size,2,none⟩=some (.string (E j).ty):=U.o.2 2 (by decide);have x3:O.cell? ⟨W.heap.size,3,none⟩=some (.bool (E j).st):=U.o.2 3 (by decide);have x4:O.cell? ⟨W.heap.size,4,none⟩=some (.string (E j).key):=U.o.2 4 (by decide);have ad:He (jA p w wz O bs m q R (.slice (some ⟨rb,0,none⟩) n rc) (.slice sa s.length sc) s):=U.o.1;have HC:He (Calls prog 24 #[.slice sa s.length sc,.agg #[.string (E j).ty,.string (E j).key,.string (E j).id],.bool false] O fun e w'=>∃ a cap,e=.returned (.slice a (dG s ⟨(E j).ty,(E j).key,(E j).id⟩ false).length cap)/\jA p w wz w' bs m q R (.slice (some ⟨rb,0,none⟩) n rc) (.slice a (dG s ⟨(E j).ty,(E j).key,(E j).id⟩ false).length cap) (dG s ⟨(E j).ty,(E j).key,(E j).id⟩ false)):=ad.o.setE au HO.o;clear Y I U HO;cases hst:(E j).st
    ·rw [hst] at x3
     clear HC;go_wp2
     go_meet;exact ⟨_,_,_,rfl,ad⟩
    rw [hst] at x3;clear ad
    go_wp2_with fail
    refine HC.o.mono ?_;rintro x w5 ⟨a,cap,rfl,hI⟩;have aq:He (_):=hI;clear HC hI x0 x2 x3 x4
    go_wp2_with fail
    go_meet;exact ⟨_,_,_,rfl,aq⟩
  clear Y;go_wp2
  go_meet;exact ⟨_,_,_,rfl,I⟩
 case rest =>
  obtain ⟨sa,sc,s,rfl,U⟩:=hcut;clear I
  apply_assumption
  exact ldA w w3 wz _ Y U
theorem b50 {v mm R sg sgc:Nat}(w w3 wz W:World)(bv:mm<256)(u:s.length<=300)(HN:He (EG p w w3 wz R rb rc n E T sg sgc A Aa Ca))(N:He (jA p w wz W bs m q R (.slice (some ⟨rb,0,none⟩) n rc) (.slice sa s.length sc) s)) :
  Code.wp prog (fZ (Tryz.f11.body.getD .skip) 7) (bodyPost prog Tryz.f11 (UH p w)) { tmps:=#[.pointer (some ⟨p,0,none⟩),u1,.pointer (some ⟨w.heap.size,0,none⟩),u3,.pointer (some ⟨w.heap.size+1,0,none⟩),.int .i64 (k:Int),.int .i64 (mm:Int),.int .i64 (v:Int),.pointer (some ⟨R,0,none⟩),.slice (some ⟨sg,0,none⟩) n sgc,.int .i64 (n:Int),.slice sa s.length sc,u12,u13,u14,u15,u16,u17,u18,u19,u20,u21,u22,u23,u24,u25,u26,u27,u28,u29,u30,u31,u32,u33,u34,u35,u36,u37,u38,u39,u40,u41,u42,u43,u44,u45,u46,u47,u48,u49,u50,u51,u52,u53,u54,u55,u56,u57,u58,u59,u60,u61,u62,u63,u64,u65,u66,u67,u68,u69,u70,u71,u72,u73,u74,u75,u76,u77,u78,u79,u80,u81,u82,u83,u84,u85,u86,u87,u88,u89,u90,u91,u92,u93,u94,u95,u96,u97,u98,u99,u100,u101,u102,u103,u104,u105,u106,u107,u108,u109,u110,u111,u112,u113,u114,u115,u116,u117,u118,u119],defers:=[] } W:=by
 rw [show fZ (Tryz.f11.body.getD .skip) 7=Code.seq _ _ from rfl]
 by_cases c1:(k:Int) % 4=1
 ·go_upto_if 46 with fail
  go_cut [11] (fun x wx=>∃ sa sc s,x=.slice sa (List.length s) sc/\List.length s<=300/\He (jA p w wz wx bs m q R (.slice (some ⟨rb,0,none⟩) n rc) (.slice sa (List.length s) sc) s))
  case first =>
   obtain ⟨L,hL⟩:∃ L,L=s.length:=⟨_,rfl⟩;have O:He (L=s.length):=hL;rw [<- hL];clear hL;have ba:L<=300:=by rw [O.o];exact u
   by_cases ab:¬ L=0
   ·have au:(0:Int)<(L:Int):=by omega
    obtain ⟨g,rfl⟩:∃ g,sa=some ⟨g,0,none⟩:=by
     rcases cX N.o.so with ⟨_,h0⟩|⟨g,an,e,_⟩
     ·exact absurd (O.o.trans h0) ab
     injection e with e1
     exact ⟨g,e1⟩
    obtain ⟨i,hi⟩:∃ i,i=mm / 16 % L:=⟨_,rfl⟩;have ap:i<L:=by rw [hi];exact Nat.mod_lt _ (by omega)
    have am:((mm / 16 % L:Nat):Int)=(i:Int):=by rw [hi]
    have bg:(mm:Int) / 16 % (L:Int)=(i:Int):=by rw [<- am];simp
    have bu:¬ ((L:Nat):Int)=0:=by omega
    clear hi am;have hp:=HN.o.hp
    obtain ⟨bh,a8,bo⟩:L<=sc/\sc<=maxLen/\R+1<=W.heap.size:=by
     have:=N.o.lr;rcases cX N.o.so with ⟨e,_⟩|⟨g,an,e,_,_,h1,h2,_⟩
     ·cases e
     injection e with _ _ e2
     rw [O.o,e2];exact ⟨h1,h2,by omega⟩
    have HT:He ((s.take i ++ s.drop (i+1)).length<=300):=by
     have:=O.o;unfold He;rw [List.length_append,List.length_take,List.length_drop];omega
    have HC:He (∀ X,Below W.heap.size W X->Calls prog 36 #[.slice (some ⟨g,0,none⟩) i sc] X fun e w'=>∃ v,e=.returned v/\aU w' (R+1) v (s.take i)/\Below W.heap.size W w'):=fun X hX=>N.o.copyE O.o ap hX
    have U:He (∀ Y v5,aU Y (R+1) v5 (s.take i)->Below W.heap.size W Y->∀ ad,(ad=if sc=i+1 then ⟨g,0,none⟩ else ⟨g,(i+1) * 3,none⟩)->∃ v6 w6,(Builtin.append_ #[26,26] 26 #[v5,.slice (some ad) (L - (i+1)) (sc - (i+1))]).run prog Y=.ok v6 w6/\∃ a c l,v6=.slice a (List.length l) c/\List.length l<=300/\jA p w wz w6 bs m q R (.slice (some ⟨rb,0,none⟩) n rc) v6 l):=fun Y v5 ho hb ad bf=>by
     obtain ⟨v6,w6,h1,a,c,h2,h3⟩:=N.o.cutE O.o ap bh hp ho hb ad bf;exact ⟨v6,w6,h1,a,c,_,h2,HT.o,h3⟩
    unfold maxLen at a8;have b1:(0:Int)<=(i:Int)+1:=by omega
    have b2:(i:Int)+1<=(L:Int):=by omega
    have b3:(i:Int)<=(sc:Int):=by omega
    have b4:(i:Int)<=(i:Int)+1:=by omega
    have ao:IntKind.i64.wrap ((i:Int)+1)=(i:Int)+1:=by rw [IntKind.wrap_i64];omega
    clear HN O u N
    by_cases Z:sc=i+1
    ·have a3:L=i+1:=by omega
     subst a3 Z;have bi:(mm:Int) / 16 % ((i:Int)+1)=(i:Int):=bg
     go_wp2_with fail
     refine wp_region_held_drew (S:=fun _=>True) (by kernel_rfl) ?_ (fun hHeld=>?_)
     ·(try dsimp only);try trivial
     refine tq 0 rfl ?_;simp only [si];refine tq 1 rfl ?_;simp only [si];refine tq 2 rfl ?_;simp only [si];refine tq 4 rfl ?_;simp only [si];refine tq 5 rfl ?_;simp only [si];refine wpAnyH_take (i:=6) (v:=.int .i64 ((i:Int)+1)) rfl (by kernel_rfl) (by kernel_rfl) (by kernel_rfl) (fun _ _ _ h=>h) (Or.inl ⟨by rfl,?hm28⟩) (by assumption) ?_
     case hm28=>(intro w h;(try dsimp only at h);go_simp;try rw [ao])
     simp only [si];refine tq 7 rfl ?_;simp only [si];refine rd 3 rfl fun K hK=>?_
     go_simp
     go_at_call 36
     refine (HC.o _ kB.drew).mono ?_;rintro x Y ⟨v5,rfl,J,I⟩;dsimp only;refine hK.out _ _ ?_ (fun hHeld=>?_)
     ·(try dsimp only);try trivial
     clear hK K;try simp only [si]
     obtain ⟨v6,w6,G,a6,c6,l6,rfl,af,H⟩:=U.o Y v5 J I _ (by first|exact (if_neg Z).symm|exact (if_pos trivial).symm|exact (if_pos rfl).symm);have ae:He (_):=H;clear HC U J I H;try simp only [Nat.sub_self] at G
     try simp only [Nat.sub_self]
     refine rd 8 rfl fun K hK=>?_
     refine kX (by rfl) _ _ 26 (by rfl) _ _ _ G (by rfl) (by rfl) ?_;refine hK.out _ _ ?_ (fun hHeld=>?_)
     ·(try dsimp only);try trivial
     clear hK K;try simp only [si]
     refine tq 9 rfl ?_;simp only [si];refine wpAnyH_done (by kernel_rfl) ?_ _
     (try go_wp2_with fail)
     go_meet;exact ⟨_,_,_,rfl,af,ae⟩
    go_wp2_with fail
    refine wp_region_held_drew (S:=fun _=>True) (by kernel_rfl) ?_ (fun hHeld=>?_)
    ·(try dsimp only);try trivial
    refine tq 0 rfl ?_;simp only [si];refine tq 1 rfl ?_;simp only [si];refine tq 2 rfl ?_;simp only [si];refine tq 4 rfl ?_;simp only [si];refine tq 5 rfl ?_;simp only [si];refine wpAnyH_take (i:=6) (v:=.int .i64 ((i:Int)+1)) rfl (by kernel_rfl) (by kernel_rfl) (by kernel_rfl) (fun _ _ _ h=>h) (Or.inl ⟨by rfl,?hm20⟩) (by assumption) ?_
    case hm20=>(intro w h;(try dsimp only at h);go_simp;try rw [ao])
    simp only [si];refine tq 7 rfl ?_;simp only [si];refine rd 3 rfl fun K hK=>?_
    go_simp
    go_at_call 36
    refine (HC.o _ kB.drew).mono ?_;rintro x Y ⟨v5,rfl,J,I⟩;dsimp only;refine hK.out _ _ ?_ (fun hHeld=>?_)
    ·(try dsimp only);try trivial
    clear hK K;try simp only [si]
    obtain ⟨v6,w6,G,a6,c6,l6,rfl,af,H⟩:=U.o Y v5 J I _ (by first|exact (if_neg Z).symm|exact (if_pos trivial).symm|exact (if_pos rfl).symm);have ae:He (_):=H;clear HC U J I H;try simp only [Nat.sub_self] at G
    try simp only [Nat.sub_self]
    refine rd 8 rfl fun K hK=>?_
    refine kX (by rfl) _ _ 26 (by rfl) _ _ _ G (by rfl) (by rfl) ?_;refine hK.out _ _ ?_ (fun hHeld=>?_)
    ·(try dsimp only);try trivial
    clear hK K;try simp only [si]
    refine tq 9 rfl ?_;simp only [si];refine wpAnyH_done (by kernel_rfl) ?_ _
    (try go_wp2_with fail)
    go_meet;exact ⟨_,_,_,rfl,af,ae⟩
   rw [O.o] at ab ⊢;have aq:s.length<=300:=u;have au:¬ (0:Int)<((s.length:Nat):Int):=by omega
   have h0:s=[]:=List.eq_nil_of_length_eq_zero (by omega);subst h0;clear HN O ba ab au;go_wp2
   go_meet;exact ⟨_,_,[],rfl,aq,N⟩
  case rest =>
   obtain ⟨sa,sc,s,rfl,hs,HX⟩:=hcut;clear N u
   apply_assumption
   exact ldB w w3 wz _ hs HN HX
 go_upto_if 46 with fail
 go_cut [11] (fun x wx=>∃ sa sc s,x=.slice sa (List.length s) sc/\List.length s<=300/\He (jA p w wz wx bs m q R (.slice (some ⟨rb,0,none⟩) n rc) (.slice sa (List.length s) sc) s))
 case first =>
  clear HN;go_wp2
  go_meet;exact ⟨_,_,_,rfl,u,N⟩
 case rest =>
  obtain ⟨sa,sc,s,rfl,hs,HX⟩:=hcut;clear N u
  apply_assumption
  exact ldB w w3 wz _ hs HN HX
variable {x:aE}{o:dI}{e:Ev}
def nU (s L:List aE):Nat->List aE
 | 0=>[]
 | k+1=>dG (nU s L k) ⟨(aI L k).ty,(aI L k).key,aQ s (aI L k).ty (aI L k).key⟩ false
def vL (s L:List aE):List aE:=nU s L L.length
theorem mE (s:List aE)(x:aE):aQ s x.ty x.key=match bZ s x with|some y=>y.id|none=>⟨#[]⟩:=by
 rw [jR];unfold BY;cases bZ s x <;> rfl
theorem yE (s L:List aE):∀ k,fK (nU s L k)
 | 0=>List.Pairwise.nil
 | k+1=>oD (yE s L k) _ _
theorem EF {s L:List aE}:∀ k,∀ x ∈ nU s L k,x ∈ s
 | 0,_,hx=>by cases hx
 | k+1,x,hx=>by
  rcases (kL (yE s L k) _ false x).1 hx with J|⟨rfl,G⟩
  ·exact EF k x J.1
  rw [FV] at G;have u:=mE s (aI L k)
  cases hl:bZ s (aI L k) with
  | none =>
   rw [hl] at u;rw [u,zS] at G
   cases G
  | some y =>
   rw [hl] at u;obtain ⟨H,I,h5⟩:=fA hl;rw [u,<- I,<- h5];exact H
theorem GK {s L:List aE}(hi:Ids s)(x:aE):∀ k,k<=L.length->(∃ j,j<k/\(aI L j).ty=x.ty/\(aI L j).key=x.key)->bZ (nU s L k) x=bZ s x
 | 0,_,h=>by obtain ⟨j,J,_⟩:=h;omega
 | k+1,hk,h=>by
  show bZ (dG (nU s L k) ⟨(aI L k).ty,(aI L k).key,aQ s (aI L k).ty (aI L k).key⟩ false) x=_
  rw [JW (yE s L k)]
  by_cases e:(aI L k).ty=x.ty/\(aI L k).key=x.key
  ·have G:bZ s (aI L k)=bZ s x:=by
    have U:aI L k=⟨x.ty,x.key,(aI L k).id⟩:=by
     obtain ⟨O,Y⟩:=e;rw [<- O,<- Y]
    rw [U];rfl
   have u:=mE s (aI L k);rw [if_pos e,FV];rw [G] at u
   cases hl:bZ s x with
   | none =>
    rw [hl] at u;rw [u,zS]
    rfl
   | some y =>
    rw [hl] at u;obtain ⟨I,N,h5⟩:=fA hl;rw [u,hi y I,e.1,e.2,<- N,<- h5];rfl
  rw [if_neg e];obtain ⟨j,J,H⟩:=h;exact GK hi x k (by omega) ⟨j,by (have:j≠k:=fun q=>e (q ▸ H));omega,H⟩
theorem XZ {L:List aE}(hr:aF E n=true)(G:dY E n s=true):dY E n (vL s L)=true :=
 bB.fitB hr ⟨yE s L _,fun x u=>(SD G).fit x (EF _ x u)⟩
theorem oP {L:List aE}(G:qV s=true)(H:x ∈ L):iZ E n (vL s L) x.ty x.key=iZ E n s x.ty x.key:=by
 have J:bZ (vL s L) x=bZ s x:=by
  obtain ⟨j,u,e⟩:=List.mem_iff_getElem.1 H;exact GK (gS G).2.2 x _ nL ⟨j,u,by rw [bP L j u,e],by rw [bP L j u,e]⟩
 have I:aQ (vL s L) x.ty x.key=aQ s x.ty x.key:=by rw [mE,mE,J]
 unfold iZ eF;rw [I]
theorem MA {o':dI}(N:o bJ aJ=o' bJ aJ)(h2:dV e=false->o aX aJ=o' aX aJ/\o dK e.sd=o' dK e.sd/\(bE e=true->o dK e.key=o' dK e.key)/\((bE e && eZ e)=true->o lB aJ=o' lB aJ)):lJ o e=lJ o' e/\(dV e=false->dL o e.sd=dL o' e.sd):=by
 unfold lJ;cases hc:dV e
 ·obtain ⟨g1,g2,Z,g4⟩:=h2 hc
  have G:∀ u,dL o u=dL o' u:=fun u=>by unfold dL;rw [g1,N]
  have H:∀ t,gA o t=gA o' t:=fun t=>by unfold gA VL DE;rw [g1]
  have J:memO o e.sd=memO o' e.sd:=by unfold memO;rw [g2]
  refine ⟨?_,fun _=>G _⟩;rw [N];cases hm:bE e
  ·have O:VC o e=VC o' e:=by
    unfold VC BV VL;rw [G,H,g1]
   simp only [Bool.false_and,Bool.false_eq_true,if_false];rw [J,O]
  have I:memO o e.key=memO o' e.key:=by unfold memO;rw [Z hm]
  have Y:LF o e=LF o' e:=by unfold LF;rw [I,G,G,H,H,H]
  cases hj:eZ e
  ·simp only [Bool.true_and,Bool.false_eq_true,if_false,if_true]
   rw [J,I,Y]
  have U:LP o e=LP o' e:=by unfold LP rW oB;rw [I,g4 (by rw [hm,hj];rfl),N,Z hm]
  simp only [Bool.true_and,Bool.and_self,if_true];rw [U]
 rw [N];exact ⟨rfl,fun h=>by cases h⟩
theorem VO (N:e.code=0)(hr:aF E n=true)(I:dY E n s=true):tP E n (vL s (cD e)) e=tP E n s e/\(dV e=false->sC E n (vL s (cD e)) e.sd=sC E n s e.sd):=by
 have J:=XZ (L:=cD e) hr I;have H:qV s=true:=by unfold dY at I;rw [Bool.and_eq_true] at I;exact I.2
 have key:=MA (o:=iZ E n (vL s (cD e))) (o':=iZ E n s) (e:=e) (oP H (x:=dM) (by unfold cD;rw [if_pos N];split <;> simp)) (fun G=>by
  have u:cD e=dM :: (jF e ++ (uq e).map cW ++ [gZ]):=by unfold cD;rw [if_pos N,G];rfl
  refine ⟨oP H (x:=gZ) (by rw [u];simp),oP H (x:=cW e.sd) (by rw [u];exact List.mem_cons_of_mem _ (List.mem_append_left _ (List.mem_append_right _ (List.mem_map.2 ⟨e.sd,(pM e _).2 (Or.inl rfl),rfl⟩)))),fun O=>oP H (x:=cW e.key) ?_,fun U=>oP H (x:=pK) ?_⟩
  ·rw [u];exact List.mem_cons_of_mem _ (List.mem_append_left _ (List.mem_append_right _ (List.mem_map.2 ⟨e.key,(pM e _).2 (Or.inr ⟨O,rfl⟩),rfl⟩)))
  rw [u];unfold jF;rw [U];simp)
 unfold tP sC;rw [hr,I,J];simp only [Bool.and_self,and_true,if_true,if_pos N];refine ⟨key.1,fun G=>?_⟩;rw [<- xK,<- xK];exact key.2 G
end Go.Proofs.YtpfeegcdlikegaaGreat
