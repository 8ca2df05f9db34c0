import Derived.Test.YtpfeegcdlikegaaGreatJoinSZ
set_option maxHeartbeats 16000000
set_option maxRecDepth 100000
namespace Go.Proofs.YtpfeegcdlikegaaGreat
open Go.RowKit Go.Proofs.Tryz
theorem dF.kP {P:Nat->Prop}{W W':World}{a:Option Addr}{cap:Nat}{l:List aE}(h:dF W a cap l)(U:Ip P a l.length)(I:KP P W W'):dF W' a cap l:=by
 rcases U with N|⟨b,off,rfl,O⟩
 ·exact ⟨h.le,h.max,h.size,Or.inl (List.eq_nil_of_length_eq_zero N)⟩
 refine ⟨h.le,h.max,h.size,h.cells.imp id fun ⟨H,u,e,G,c0,c1,c2⟩=>⟨H,u,e,nT G I.1,fun i hi=>?_,fun i hi=>?_,fun i hi=>?_⟩⟩
 all_goals
  have J:b=H:=by injection e with e;injection e
  refine (I.cell (J ▸ O) G).trans ?_
 ·exact c0 i hi
 ·exact c1 i hi
 exact c2 i hi
theorem Ip.wide {P u:Nat->Prop}{a:Option Addr}{n:Nat}(h:Ip P a n)(G:∀ b,P b->u b):Ip u a n:=h.imp id fun ⟨b,o,e,q⟩=>⟨b,o,e,G b q⟩
theorem EY.less {P:Nat->Prop}{W:World}{rb rc n n':Nat}{E:Nat->Ev}(h:EY P W rb rc n E)(u:n'<=n):EY P W rb rc n' E:=⟨nZ u h.le,h.max,h.hb,h.sz,fun i hi=>h.ev i (by omega)⟩
def PV (w:World)(R V b:Nat):Prop:=w.heap.size+2<=b/\b≠R/\b≠V
def UH (p:Nat)(w:World)(x:Ending)(w':World):Prop :=
 ∃ rb rc n E sa sc s e pa cp aa ca ga cg,x=.returned (.tuple #[.agg #[.slice (some ⟨rb,0,none⟩) n rc],.slice sa (List.length s) sc,Ev.val' e pa cp aa ca ga cg])/\He (EY (fun b=>w.heap.size+2<=b) w' rb rc n E/\dF w' sa sc s/\Ip (fun b=>w.heap.size+2<=b) sa (List.length s)/\yN (fun b=>w.heap.size+2<=b) w' e pa cp aa ca ga cg)/\w.grownBy w' (some p)
structure yO (p:Nat)(w W:World)(bs:Nat->Nat)(m q R V rb rc n:Nat)(E:Nat->Ev)(sa:Option Addr)(sc:Nat)(s:List aE):Prop where
 dz:LO w W
 r:W.cell? ⟨R,0,none⟩=some (.slice (some ⟨rb,0,none⟩) n rc)
 rf:W.frozen? ⟨R,0,none⟩=false
 vz:∀ o,o<10->∃ v,W.cell? ⟨V,o,none⟩=some v
 fv:∀ o,W.frozen? ⟨V,o,none⟩=false
 lr:w.heap.size+2<=R
 lv:R<V
 vs:V<W.heap.size
 dw:bR p w W bs m q
 rm:EY (PV w R V) W rb rc n E
 sl:dF W sa sc s
 si:Ip (PV w R V) sa s.length
section
variable {p:Nat} {w W W':World} {bs:Nat->Nat} {m q q' R V rb rc n:Nat} {E:Nat->Ev} {sa:Option Addr} {sc:Nat} {s:List aE}
theorem yO.kept (h:yO p w W bs m q R V rb rc n E sa sc s)(H:W.heap.size<=W'.heap.size)(G:∀ b,w.heap.size<=b->b<W.heap.size->b≠V->W'.heap[b]?=W.heap[b]?)(hz:∀ o,o<10->∃ v,W'.cell? ⟨V,o,none⟩=some v)(O:∀ o,W'.frozen? ⟨V,o,none⟩=false)(U:bR p w W' bs m q'):yO p w W' bs m q' R V rb rc n E sa sc s:=by
 have lr:=h.lr;have lv:=h.lv;have vs:=h.vs;have I:=G R (by omega) (by omega) (by omega);have N:KP (PV w R V) W W':=⟨H,fun b u J=>G b (by have:=u.1;omega) J u.2.2⟩;exact ⟨h.dz.kept (fun b u J=>G b u (by omega) (by omega)),(World.cell?_of_block (a:=⟨R,0,none⟩) I).trans h.r,(World.frozen?_of_block (a:=⟨R,0,none⟩) I).trans h.rf,hz,O,lr,lv,nT vs H,U,h.rm.kP N,h.sl.kP h.si N,h.si⟩
theorem yO.drew (h:yO p w W bs m q R V rb rc n E sa sc s):yO p w W.drew bs m q R V rb rc n E sa sc s:=h.kept nL (fun _ _ _ _=>rfl) h.vz h.fv (h.dw.below kB.drew)
theorem yO.box (h:yO p w W bs m q R V rb rc n E sa sc s)(hp:p<w.heap.size)(j:Nat)(x:Value):yO p w (W.setCell ⟨V,j,none⟩ x) bs m q R V rb rc n E sa sc s :=
 h.kept (by simp [World.setCell]) (fun b _ _ G=>Below.heap_setCell _ _ _ _ (by show b≠V;exact G)) (fun o u=>by
  by_cases e:o=j
  ·subst e
   exact ⟨_,aZ (h.vz o u)⟩
  rw [aB e];exact h.vz o u) (fun o=>by rw [World.frozen?_setCell];exact h.fv o) (h.dw.own (by have:=h.lr;have:=h.lv;omega) hp j x)
def JZ (c:Nat->Value)(V:Nat):Nat->World->World
 | 0,W=>W
 | n+1,W=>(JZ c V n W).setCell ⟨V,n,none⟩ (c n)
theorem IK (c:Nat->Value)(V:Nat)(W:World){o:Nat}:∀ n,n<=o->(JZ c V n W).cell? ⟨V,o,none⟩=W.cell? ⟨V,o,none⟩
 | 0,_=>rfl
 | n+1,h=>by
  show ((JZ c V n W).setCell ⟨V,n,none⟩ (c n)).cell? ⟨V,o,none⟩=_
  rw [aB (by omega)];exact IK c V W n (by omega)
theorem rZ (c:Nat->Value)(V:Nat)(W:World){o:Nat}(u:∃ v,W.cell? ⟨V,o,none⟩=some v):∀ n,o<n->(JZ c V n W).cell? ⟨V,o,none⟩=some (c o)
 | 0,h=>absurd h (Nat.not_lt_zero _)
 | n+1,h=>by
  show ((JZ c V n W).setCell ⟨V,n,none⟩ (c n)).cell? ⟨V,o,none⟩=_
  by_cases e:o=n
  ·subst e
   exact aZ (by rw [IK c V W _ nL];exact u)
  rw [aB (by omega)];exact rZ c V W u n (by omega)
theorem CV (c:Nat->Value)(V:Nat)(W:World):∀ n,Kb V W (JZ c V n W)
 | 0=>Kb.refl _ _
 | n+1=>(CV c V W n).set n (c n)
theorem yO.fiw (h:yO p w W bs m q R V rb rc n E sa sc s)(hp:p<w.heap.size)(c:Nat->Value):∀ j,yO p w (JZ c V j W) bs m q R V rb rc n E sa sc s
 | 0=>h
 | j+1=>(yO.fiw h hp c j).box hp j (c j)
end
structure LM (p:Nat)(w W:World)(bs:Nat->Nat)(m q R V rb rc n:Nat)(E:Nat->Ev)(sa:Option Addr)(sc:Nat)(s:List aE)(e:Ev)(pa:Option Addr)(cp:Nat)(aa:Option Addr)(ca:Nat)(ga:Option Addr)(cg:Nat):Prop where
 k:yO p w W bs m q R V rb rc n E sa sc s
 v:∀ o,o<10->W.cell? ⟨V,o,none⟩=some (((ec e pa cp aa ca ga cg):Array Value)[o]?.getD undef)
 ev:yN (PV w R V) W e pa cp aa ca ga cg
theorem LM.cut {p:Nat}{bs:Nat->Nat}{m q R V rb rc n:Nat}{E:Nat->Ev}{sa:Option Addr}{sc:Nat}{s:List aE}{e:Ev}{pa aa ga:Option Addr}{cp ca cg:Nat}{w W:World}{n':Nat}(h:LM p w W bs m q R V rb rc n E sa sc s e pa cp aa ca ga cg)(hp:p<w.heap.size)(J:n'<=n):LM p w (W.setCell ⟨R,0,none⟩ (.slice (some ⟨rb,0,none⟩) n' rc)) bs m q R V rb rc n' E sa sc s e pa cp aa ca ga cg:=by
 have lr:=h.k.lr;have lv:=h.k.lv;have u:KP (PV w R V) W (W.setCell ⟨R,0,none⟩ (.slice (some ⟨rb,0,none⟩) n' rc)):=(KP.refl _ _).set (fun N=>N.2.1 rfl) 0 _;have I:∀ b,b≠R->(W.setCell ⟨R,0,none⟩ (.slice (some ⟨rb,0,none⟩) n' rc)).heap[b]?=W.heap[b]?:=fun b hb=>Below.heap_setCell _ _ _ _ (by show b≠R;exact hb)
 have H:=I V (by omega);exact ⟨⟨h.k.dz.kept (fun b O U=>I b (by omega)),aZ ⟨_,h.k.r⟩,by rw [World.frozen?_setCell];exact h.k.rf,fun o G=>(h.k.vz o G).imp fun _ q=>(World.cell?_of_block (a:=⟨V,o,none⟩) H).trans q,fun o=>by rw [World.frozen?_setCell];exact h.k.fv o,lr,lv,nT h.k.vs u.1,h.k.dw.own (by omega) hp 0 _,(h.k.rm.kP u).less J,h.k.sl.kP h.k.si u,h.k.si⟩,fun o G=>(World.cell?_of_block (a:=⟨V,o,none⟩) H).trans (h.v o G),h.ev.kP u⟩
theorem h5 {p:Nat}{w W W':World}{bs:Nat->Nat}{m q R V rb rc n:Nat}{E:Nat->Ev}{sa:Option Addr}{sc:Nat}{s:List aE}(h:yO p w W bs m q R V rb rc n E sa sc s)(hK:KP (fun b=>w.heap.size+2<=b) W W'):dF W' sa sc s:=h.sl.kP (h.si.wide (fun _ q=>q.1)) hK
theorem AY {p:Nat}{w W:World}{bs:Nat->Nat}{m q:Nat}(h:bR p w W bs m q):bR p w W.drew bs m q:=h.below kB.drew
theorem ldF {p:Nat}{bs:Nat->Nat}{m q R V rb rc n:Nat}{E:Nat->Ev}{sa:Option Addr}{sc:Nat}{s:List aE}{e:Ev}{pa aa ga:Option Addr}{cp ca cg:Nat}{u0 u1 u3 N u6 O u9 u10 u12 u13 u15 u16 u17 u18 u19 u20 u21 u22 u23 u24 u25 u26 u27 u28 u29 u30 u31 u32 u33 u34 u35 u36 u37 u38 u39 u40 u41 u42 u43 u44 u45 u46 u47 u48 u49 u50 u51 u52 u53 u54 u55 u56 u57 u58 u59 u60 u61 u62 u63 u64 u65 u66 u67 u68 u69 u70 u71 u72 u73 u74 u75 u76 u77 u78 u79 u80 u81 u82 u83 u84 u85 u86 u87 u88 u89 u90 u91 u92 u93 u94 u95 u96 u97 u98 u99 u100 u101 u102 u103 u104 u105 u106 u107 u108 u109 u110 u111 u112 u113 u114 u115 u116 u117 u118 u119:Value}(w W:World)(hp:p<w.heap.size)(u:He (LM p w W bs m q R V rb rc n E sa sc s e pa cp aa ca ga cg)) :
  Code.wp prog (fZ (Tryz.f11.body.getD .skip) 14) (bodyPost prog Tryz.f11 (UH p w)) { tmps:=#[u0,u1,.pointer (some ⟨w.heap.size,0,none⟩),u3,.pointer (some ⟨w.heap.size+1,0,none⟩),N,u6,O,.pointer (some ⟨R,0,none⟩),u9,u10,.slice sa s.length sc,u12,u13,.pointer (some ⟨V,0,none⟩),u15,u16,u17,u18,u19,u20,u21,u22,u23,u24,u25,u26,u27,u28,u29,u30,u31,u32,u33,u34,u35,u36,u37,u38,u39,u40,u41,u42,u43,u44,u45,u46,u47,u48,u49,u50,u51,u52,u53,u54,u55,u56,u57,u58,u59,u60,u61,u62,u63,u64,u65,u66,u67,u68,u69,u70,u71,u72,u73,u74,u75,u76,u77,u78,u79,u80,u81,u82,u83,u84,u85,u86,u87,u88,u89,u90,u91,u92,u93,u94,u95,u96,u97,u98,u99,u100,u101,u102,u103,u104,u105,u106,u107,u108,u109,u110,u111,u112,u113,u114,u115,u116,u117,u118,u119],defers:=[] } W:=by
 first
  | rw [show fZ (Tryz.f11.body.getD .skip) 14=Code.seq _ _ from rfl]
  | rw [show fZ (Tryz.f11.body.getD .skip) 14=Code.region 23 _ _ from rfl]
 have c0:W.cell? ⟨V,0,none⟩=some (.string e.id):=u.o.v 0 (by decide);have c1:W.cell? ⟨V,1,none⟩=some (.string e.sd):=u.o.v 1 (by decide);have c2:W.cell? ⟨V,2,none⟩=some (.string e.ty):=u.o.v 2 (by decide);have c3:W.cell? ⟨V,3,none⟩=some (.bool e.st):=u.o.v 3 (by decide);have c4:W.cell? ⟨V,4,none⟩=some (.string e.key):=u.o.v 4 (by decide);have c5:W.cell? ⟨V,5,none⟩=some (.int .i64 e.tm):=u.o.v 5 (by decide);have c6:W.cell? ⟨V,6,none⟩=some (.slice pa e.np cp):=u.o.v 6 (by decide);have c7:W.cell? ⟨V,7,none⟩=some (.slice aa e.na ca):=u.o.v 7 (by decide);have c8:W.cell? ⟨V,8,none⟩=some (.string e.val):=u.o.v 8 (by decide);have c9:W.cell? ⟨V,9,none⟩=some (.slice ga e.ng cg):=u.o.v 9 (by decide);have r0:=u.o.k.r;obtain ⟨z,y⟩:=u.o.k.dz.z0;obtain ⟨x0,y0⟩:=u.o.k.dz.z1 0 (by decide);obtain ⟨x1,Y⟩:=u.o.k.dz.z1 1 (by decide);obtain ⟨x2,I⟩:=u.o.k.dz.z1 2 (by decide);obtain ⟨x3,G⟩:=u.o.k.dz.z1 3 (by decide);obtain ⟨x4,y4⟩:=u.o.k.dz.z1 4 (by decide);obtain ⟨x5,y5⟩:=u.o.k.dz.z1 5 (by decide);obtain ⟨x6,J⟩:=u.o.k.dz.z1 6 (by decide);obtain ⟨x7,Z⟩:=u.o.k.dz.z1 7 (by decide);obtain ⟨x8,y8⟩:=u.o.k.dz.z1 8 (by decide);obtain ⟨x9,y9⟩:=u.o.k.dz.z1 9 (by decide);have g0:=u.o.k.dz.g0;have g1:=u.o.k.dz.g1;have n1:w.heap.size≠R:=by have:=u.o.k.lr;omega
 have n2:w.heap.size+1≠R:=by have:=u.o.k.lr;omega
 have n3:w.heap.size≠V:=by have:=u.o.k.lr;have:=u.o.k.lv;omega
 have n4:w.heap.size+1≠V:=by have:=u.o.k.lr;have:=u.o.k.lv;omega
 have HF:He (∀ W',KP (fun b=>w.heap.size+2<=b) W W'->bR p w W' bs m q->UH p w (.returned (.tuple #[.agg #[.slice (some ⟨rb,0,none⟩) n rc],.slice sa s.length sc,.agg (ec e pa cp aa ca ga cg)])) W'):=fun W' hK U=>⟨rb,rc,n,E,sa,sc,s,e,pa,cp,aa,ca,ga,cg,rfl,⟨(u.o.k.rm.wide (fun _ q=>q.1)).kP hK,h5 u.o.k hK,u.o.k.si.wide (fun _ q=>q.1),(u.o.ev.wide (fun _ q=>q.1)).kP hK⟩,U.2⟩
 have H:He (bR p w W bs m q):=u.o.k.dw;clear u
 go_wp2_with fail
 go_region
 all_goals
  go_wp2
  refine bodyPost_ret (v:=.tuple #[.agg #[.slice (some ⟨rb,0,none⟩) n rc],.slice sa s.length sc,.agg (ec e pa cp aa ca ga cg)]) (by simp [results,results11,go_sem,y,y0,Y,I,G,y4,y5,J,Z,y8,y9]) rfl ?_;refine HF.o _ ?_ ?_
  ·repeat first
    | with_reducible exact KP.refl _ _
    | with_reducible refine KP.set ?_ (show ¬ w.heap.size+2<=w.heap.size from by omega) _ _
    | with_reducible refine KP.set ?_ (show ¬ w.heap.size+2<=w.heap.size+1 from by omega) _ _
    | with_reducible refine KP.drew ?_
  repeat first
   | with_reducible exact H.o
   | with_reducible refine bR.own ?_ (show w.heap.size<=w.heap.size from nL) hp _ _
   | with_reducible refine bR.own ?_ (show w.heap.size<=w.heap.size+1 from Nat.le_succ _) hp _ _
   | with_reducible refine AY ?_
theorem ldE {p:Nat}{bs:Nat->Nat}{m q k R V rb rc n:Nat}{E:Nat->Ev}{sa:Option Addr}{sc:Nat}{s:List aE}{e:Ev}{pa aa ga:Option Addr}{cp ca cg:Nat}{O u1 u3 u6 N u9 u12 u13 u15 u16 u17 u18 u19 u20 u21 u22 u23 u24 u25 u26 u27 u28 u29 u30 u31 u32 u33 u34 u35 u36 u37 u38 u39 u40 u41 u42 u43 u44 u45 u46 u47 u48 u49 u50 u51 u52 u53 u54 u55 u56 u57 u58 u59 u60 u61 u62 u63 u64 u65 u66 u67 u68 u69 u70 u71 u72 u73 u74 u75 u76 u77 u78 u79 u80 u81 u82 u83 u84 u85 u86 u87 u88 u89 u90 u91 u92 u93 u94 u95 u96 u97 u98 u99 u100 u101 u102 u103 u104 u105 u106 u107 u108 u109 u110 u111 u112 u113 u114 u115 u116 u117 u118 u119:Value}(w W:World)(hp:p<w.heap.size)(G:He (LM p w W bs m q R V rb rc n E sa sc s e pa cp aa ca ga cg)) :
  Code.wp prog (fZ (Tryz.f11.body.getD .skip) 13) (bodyPost prog Tryz.f11 (UH p w)) { tmps:=#[O,u1,.pointer (some ⟨w.heap.size,0,none⟩),u3,.pointer (some ⟨w.heap.size+1,0,none⟩),.int .i64 (k:Int),u6,N,.pointer (some ⟨R,0,none⟩),u9,.int .i64 (n:Int),.slice sa s.length sc,u12,u13,.pointer (some ⟨V,0,none⟩),u15,u16,u17,u18,u19,u20,u21,u22,u23,u24,u25,u26,u27,u28,u29,u30,u31,u32,u33,u34,u35,u36,u37,u38,u39,u40,u41,u42,u43,u44,u45,u46,u47,u48,u49,u50,u51,u52,u53,u54,u55,u56,u57,u58,u59,u60,u61,u62,u63,u64,u65,u66,u67,u68,u69,u70,u71,u72,u73,u74,u75,u76,u77,u78,u79,u80,u81,u82,u83,u84,u85,u86,u87,u88,u89,u90,u91,u92,u93,u94,u95,u96,u97,u98,u99,u100,u101,u102,u103,u104,u105,u106,u107,u108,u109,u110,u111,u112,u113,u114,u115,u116,u117,u118,u119],defers:=[] } W:=by
 rw [show fZ (Tryz.f11.body.getD .skip) 13=Code.seq _ _ from rfl]
 go_upto_if 110 with fail
 go_cut [119] (fun _ wx=>∃ n',He (LM p w wx bs m q R V rb rc n' E sa sc s e pa cp aa ca ga cg))
 case first =>
  by_cases Z:(k:Int) % 32=7
  ·obtain ⟨j,I⟩:∃ j,j=n / 2:=⟨_,rfl⟩
   have u:He (_):=G.o.cut (n':=j) hp (by omega);have Y:=G.o.k.r;have rf:=G.o.k.rf;have U:=G.o.k.rm.le;have H:=G.o.k.rm.max;unfold maxLen at H;have h0:(0:Int)<=(n:Int) / 2:=by omega
   have h1:(n:Int) / 2<=(rc:Int):=by omega
   have hT:((n:Int) / 2).toNat=j:=by omega
   have J:(n:Int).tdiv 2=(n:Int) / 2:=Int.tdiv_eq_ediv_of_nonneg (by omega);clear G;go_wp2
   go_meet
   first
    | exact ⟨_,u⟩
    | (rw [<- I];exact ⟨_,u⟩)
    | (rw [I] at u;exact ⟨_,u⟩)
  have u:He (_):=G.o;clear G;go_wp2
  go_meet;exact ⟨_,u⟩
 case rest =>
  obtain ⟨n',u⟩:=hcut;clear G
  apply_assumption
  exact ldF w _ hp u
end Go.Proofs.YtpfeegcdlikegaaGreat
