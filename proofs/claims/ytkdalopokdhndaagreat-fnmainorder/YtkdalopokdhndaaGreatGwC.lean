import Derived.Test.YtkdalopokdhndaaGreatGvT
import Derived.Test.YtkdalopokdhndaaGreatDgC
set_option maxHeartbeats 16000000
set_option maxRecDepth 100000
namespace Go.Proofs.YtkdalopokdhndaaGreat
open Go.RowKit
def GwO (w':World)(lo:Nat)(e:Ev)(pa:Option Addr)(cp:Nat)(aa:Option Addr)(ca:Nat)(ga:Option Addr)(cg:Nat):Prop :=
 OwnT w' lo (.slice pa e.np cp) e.np e.Pv∧OwnT w' lo (.slice aa e.na ca) e.na e.Av∧OwnG w' lo (.slice ga e.ng cg) e.ng e.M e.L∧∀ b,(Value.slice pa e.np cp).ownBlock=some b->(Value.slice aa e.na ca).ownBlock≠some b
theorem rowLo {w:World}{base base' st n:Nat}{t:TypeId}{v:Value}{xs:List Value}(h:w.ownsRow base t st v n xs)(hb:base'<=base):w.ownsRow base' t st v n xs :=
 ⟨h.1,h.2.imp id fun ⟨g,c,cur,a1,a2,a3⟩=>⟨g,c,cur,a1,nZ hb a2,a3⟩⟩
theorem OwnL.tt {w:World}{base:Nat}{v:Value}{l:List ByteArray}(h:OwnL w base v l):OwnT w base v l.length (getL l):=by
 have e:strs (getL l) l.length=l.map Value.string:=by
  apply List.ext_getElem?;intro i
  by_cases hi:i<l.length
  ·rw [strs_get _ _ _ hi,List.getElem?_map,List.getElem?_eq_getElem hi]
   simp [getL,hi]
  rw [List.getElem?_eq_none (by rw [strs_len];omega),List.getElem?_eq_none (by simp;omega)]
 unfold OwnT;rw [e];exact h
def GwPost (p:Nat)(w:World)(bs:Nat->Nat)(m q:Nat)(E:Nat->Ev)(n:Nat)(A:Nat->List Ent)(x:Ending)(w':World):Prop :=
 ∃ e pa cp aa ca ga cg,GwR bs m q E n A e∧x=.returned (e.val' pa cp aa ca ga cg)∧EvOk w' e pa cp aa ca ga cg∧EvLo w.heap.size e pa aa ga∧GwO w' w.heap.size e pa cp aa ca ga cg∧DwF p w w' bs m (gwQ bs m q)
def GwK (p:Nat)(w:World)(be oe n cap:Nat)(E:Nat->Ev)(ab ao na:Nat)(A:Nat->List Ent)(Aa:Nat->Option Addr)(Ca:Nat->Nat):Prop :=
 ∀ W,w.grownBy W (some p)->SlV W (some ⟨be,oe,none⟩) n cap E∧(∀ j,j<n->EvAt W be (oe+j * 10) (E j))∧∀ j,j<na->W.cell? ⟨ab,ao+j,none⟩=some (.slice (Aa j) (A j).length (Ca j))∧SlE W (Aa j) (Ca j) (A j)
def GwRel (p:Nat)(w:World)(bs:Nat->Nat)(m q:Nat)(rv:Value)(B:Nat)(c0:Nat->Value)(k n:Nat)(E:Nat->Ev)(A:Nat->List Ent)(Aa:Nat->Option Addr)(Ca:Nat->Nat)(i:Nat)(sv:Value)(wr:World):Prop :=
 ∃ pv,GwT p w wr bs m q rv B (fun o=>if o=6 then pv else c0 o) ((gwL k n i).map fun j=>(E j).id) sv ((gwL k n i).map fun j=>.slice (Aa j) (A j).length (Ca j))
section
variable {p:Nat} {w W:World} {bs:Nat->Nat} {m q:Nat} {rv:Value} {B:Nat} {c0:Nat->Value} {k n:Nat} {E:Nat->Ev} {A:Nat->List Ent} {Aa:Nat->Option Addr} {Ca:Nat->Nat} {i:Nat} {sv:Value}
theorem gwRel_0 (h:GvB p w W bs m q rv B c0)(h6:c0 6=.slice none 0 0):GwRel p w bs m q rv B c0 k n E A Aa Ca 0 (.slice (some ⟨W.heap.size,0,none⟩) 0 0) (W.alloc (.cells #[] 26)):=by
 refine ⟨.slice none 0 0,(h.below bA).congr fun o ho=>?_,OwnL.nil _ _,⟨rfl,Or.inr ⟨W.heap.size,0,#[],rfl,h.hi,by show (W.heap.push _)[W.heap.size]?=_;simp,nL,by decide,rfl,rfl⟩⟩,fun b hb=>by cases hb⟩
 by_cases e:o=6
 ·subst e;rw [if_pos rfl];exact h6
 rw [if_neg e]
theorem GwRel.below (h:GwRel p w bs m q rv B c0 k n E A Aa Ca i sv W){W':World}(hb:Below W.heap.size W W'):GwRel p w bs m q rv B c0 k n E A Aa Ca i sv W':=h.imp fun _ h=>h.below hb
theorem gwRel_skip (h:GwRel p w bs m q rv B c0 k n E A Aa Ca i sv W)(hm:gwP k n i ∈ gwL k n i):GwRel p w bs m q rv B c0 k n E A Aa Ca (i+1) sv W:=by
 have:gwL k n (i+1)=gwL k n i:=by simp [gwL,hm]
 unfold GwRel;rw [this];exact h
theorem gwRel_put {pv:Value}(h:GwT p w W bs m q rv B (fun o=>if o=6 then pv else c0 o) (((gwL k n i).map fun j=>(E j).id) ++ [(E (gwP k n i)).id]) sv (((gwL k n i).map fun j=>Value.slice (Aa j) (A j).length (Ca j)) ++ [.slice (Aa (gwP k n i)) (A (gwP k n i)).length (Ca (gwP k n i))]))(hm:¬ gwP k n i ∈ gwL k n i):GwRel p w bs m q rv B c0 k n E A Aa Ca (i+1) sv W:=by
 have:gwL k n (i+1)=gwL k n i ++ [gwP k n i]:=by simp [gwL,hm]
 unfold GwRel;rw [this,List.map_append,List.map_append];exact ⟨pv,h⟩
theorem gw_has (hr:roomTo E n=true)(hn:0<n):hasB (getL ((gwL k n i).map fun j=>(E j).id)) ((gwL k n i).map fun j=>(E j).id).length (E (gwP k n i)).id=decide (gwP k n i ∈ gwL k n i):=by
 rw [Bool.eq_iff_iff,hasB_in,decide_eq_true_iff,List.mem_map];constructor
 ·rintro ⟨j,hj,e⟩
  have h1:=posV_here hr (gwL_lt hn i j hj);have h2:=posV_here hr (gwP_lt (k:=k) (i:=i) hn);rw [e,h2] at h1
  have:gwP k n i=j:=by omega
  rw [this];exact hj
 intro h;exact ⟨_,h,rfl⟩
end
def CtP2 (p:Nat)(w:World)(bs:Nat->Nat)(m q:Nat)(e1:Ev)(pa:Option Addr)(cp:Nat)(x:Ending)(w':World):Prop :=
 ∃ ga cg,x=.returned (.agg #[.string e1.id,.string e1.sd,.string e1.ty,.bool e1.st,.string e1.key,.int .i64 e1.tm,.slice pa e1.np cp,.slice none 0 0,.string e1.val,.slice ga e1.ng cg])∧OwnG w' w.heap.size (.slice ga e1.ng cg) e1.ng e1.M e1.L∧DwF p w w' bs m q
def codeTl:Code->Code
 | .seq _ b=>b
 | c=>c
def codeHd:Code->Code
 | .seq a _=>a
 | c=>c
def tlN (c:Code):Nat->Code
 | 0=>c
 | n+1=>codeTl (tlN c n)
theorem l2GwC (p:Nat){bs:Nat->Nat}{m q be oe n cap:Nat}{E:Nat->Ev}{ab ao na sc:Nat}{A:Nat->List Ent}{Aa:Nat->Option Addr}{Ca:Nat->Nat}{k B:Nat}{ic us:ByteArray}{pv sv u10 u12 u13 u20 u21 u22 u23 u24 u25 u26 u27 u28 u29 u30 u31 u32 u33 u34 u35 u36 u37 u38 u39 u40 u41 u42 u43 u44 u45 u46 u47 u48 u49 u50 u51 u52 u53 u54 u55 u56 u57 u58 u59 u60 u61 u62 u63 u64 u65 u66 u67 u68 u69 u70 u71 u72 u73 u74 u75 u76 u77 u78 u79 u80 u81 u82 u83 u84 u85 u86 u87 u88 u89 u90 u91 u92 u93 u94 u95 u96 u97 u98 u99 u100 u101 u102 u103 u104 u105 u106 u107 u108 u109 u110 u111 u112 u113 u114 u115 u116 u117 u118 u119 u120 u121 u122 u123 u124 u125 u126 u127 u128 u129 u130 u131 u132 u133 u134 u135 u136 u137 u138 u139 u140 u141 u142 u143 u144 u145 u146 u147 u148 u149 u150 u151 u152 u153 u154 u155 u156 u157 u158 u159 u160 u161 u162 u163 u164 u165 u166 u167 u168 u169 u170 u171 u172 u173 u174 u175 u176 u177 u178 u179 u180 u181 u182 u183 u184 u185 u186 u187 u188 u189 u190 u191 u192:Value}{K:Act->World->Prop}(w wr:World)(hp:p<w.heap.size)(hn:0<n)(h300:n<=300)(hk:k<256)(Hk:Hid (k=nxB bs m q))(Hic:Hid (ic=gwId k n))(hiz:ic.size<=100)(Hus:Hid (us=usr (k / 4 % 16 % 5)))(hna:n<=na)(_hna2:na<=2 ^ 63 - 1)(_hcapn:n<=cap∧cap<=2 ^ 63 - 1)(Hroom:Hid (roomTo E n=true))(Hf:Hid (∀ j,j<n->FitL E n (A j)))(HKh:Hid (GwK p w be oe n cap E ab ao na A Aa Ca))(hlo:w.heap.size+2<=B)(HT:Hid (GwT p w wr bs m (nxQ m q) (.slice (some ⟨be,oe,none⟩) n cap) B (fun o=>if o=6 then pv else (#[.string ic,.string us,.string ⟨#[]⟩,.bool false,.string ⟨#[]⟩,.int .i64 (100+(k:Int) % 7),.slice none 0 0,.slice none 0 0,.string ⟨#[]⟩,.slice none 0 0]:Array Value)[o]?.getD undef) ((gwL k n (gwC k)).map fun j=>(E j).id) sv ((gwL k n (gwC k)).map fun j=>Value.slice (Aa j) (A j).length (Ca j))))(hK:∀ a w',Code.wp Tryz.prog (codeTl (tlN (Tryz.f64.body.getD .skip) 8)) (bodyPost Tryz.prog Tryz.f64 (GwPost p w bs m q E n A)) a w'->K a w') :
  Code.wp Tryz.prog (codeHd (tlN (Tryz.f64.body.getD .skip) 8)) (Exit.then K (bodyPost Tryz.prog Tryz.f64 (GwPost p w bs m q E n A))) { tmps:=#[.pointer (some ⟨p,0,none⟩),.agg #[.slice (some ⟨be,oe,none⟩) n cap],.slice (some ⟨ab,ao,none⟩) na sc,undef,.pointer (some ⟨w.heap.size,0,none⟩),undef,.pointer (some ⟨w.heap.size+1,0,none⟩),.int .i64 (n:Int),.int .i64 (k:Int),.pointer (some ⟨B,0,none⟩),u10,sv,u12,u13,undef,undef,undef,undef,undef,undef,u20,u21,u22,u23,u24,u25,u26,u27,u28,u29,u30,u31,u32,u33,u34,u35,u36,u37,u38,u39,u40,u41,u42,u43,u44,u45,u46,u47,u48,u49,u50,u51,u52,u53,u54,u55,u56,u57,u58,u59,u60,u61,u62,u63,u64,u65,u66,u67,u68,u69,u70,u71,u72,u73,u74,u75,u76,u77,u78,u79,u80,u81,u82,u83,u84,u85,u86,u87,u88,u89,u90,u91,u92,u93,u94,u95,u96,u97,u98,u99,u100,u101,u102,u103,u104,u105,u106,u107,u108,u109,u110,u111,u112,u113,u114,u115,u116,u117,u118,u119,u120,u121,u122,u123,u124,u125,u126,u127,u128,u129,u130,u131,u132,u133,u134,u135,u136,u137,u138,u139,u140,u141,u142,u143,u144,u145,u146,u147,u148,u149,u150,u151,u152,u153,u154,u155,u156,u157,u158,u159,u160,u161,u162,u163,u164,u165,u166,u167,u168,u169,u170,u171,u172,u173,u174,u175,u176,u177,u178,u179,u180,u181,u182,u183,u184,u185,u186,u187,u188,u189,u190,u191,u192],defers:=[] } wr:=by
 obtain ⟨i0,hi0,hz0,hz1,hz2⟩:=info_parts Tryz.infoString;obtain ⟨j0,hj0,hy0,hy1,hy2⟩:=info_parts Tryz.infoRowE;rw [show codeTl (tlN (Tryz.f64.body.getD .skip) 8)=Code.seq _ _ from rfl] at hK;rw [show codeHd (tlN (Tryz.f64.body.getD .skip) 8)=Code.region 17 _ _ from rfl];have hT:=HT.out;clear HT;obtain ⟨L,hL⟩:∃ L,L=gwL k n (gwC k):=⟨_,rfl⟩;rw [<- hL] at hT;obtain ⟨pl,hpl⟩:∃ pl,pl=L.map fun j=>(E j).id:=⟨_,rfl⟩
 obtain ⟨vs,hvs⟩:∃ vs,vs=L.map fun j=>Value.slice (Aa j) (A j).length (Ca j):=⟨_,rfl⟩
 rw [<- hpl,<- hvs] at hT;have hLn:∀ j ∈ L,j<n:=by rw [hL];exact gwL_lt hn _
 have hL3:L.length<=3:=by rw [hL];exact nZ (gwL_len k n _) (gwC_le k).1
 obtain ⟨hV,hEv,hSt⟩:=HKh.out wr hT.g.a.dw.2
 have hids:∀ s ∈ pl,s.size<=maxLen:=by
  rw [hpl];intro s hs;obtain ⟨j,hj,rfl⟩:=List.mem_map.1 hs;obtain ⟨_,_,_,_,_,_,_,ho⟩:=hEv j (hLn j hj);exact ho.hid
 have Hids:Hid (∀ s ∈ pl,s.size<=maxLen):=hids;have hor:OwnL wr (B+1) pv pl:=hT.o;obtain ⟨pa,cp,hpv,hsp,_⟩:=hor.sl hids;subst hpv;have hpll:pl.length=L.length:=by rw [hpl,List.length_map]
 have hvll:vs.length=L.length:=by rw [hvs,List.length_map]
 have Hvv:Hid (∀ i,i<vs.length->vs[i]?=some (.slice (Aa (L.getD i 0)) (A (L.getD i 0)).length (Ca (L.getD i 0)))):=fun i hi=>by
  rw [hvs,List.getElem?_map,List.getElem?_eq_getElem (by omega),List.getD_eq_getElem?_getD,List.getElem?_eq_getElem (by omega)];rfl
 have Hgd:Hid (∀ i,i<vs.length->L.getD i 0<n):=fun i hi=>by
  rw [List.getD_eq_getElem?_getD,List.getElem?_eq_getElem (by omega)];exact hLn _ (List.getElem_mem _)
 obtain ⟨sa,ss,hsv,_⟩:=ownsRow_ee hT.r (L:=fun i=>A (L.getD i 0)) (Aa:=fun i=>Aa (L.getD i 0)) (Ca:=fun i=>Ca (L.getD i 0)) Hvv.out (fun i hi=>(hSt _ (by have:=Hgd.out i hi;omega)).2);subst hsv;obtain ⟨e0,he0⟩:∃ e0,e0=gw0 k n E:=⟨_,rfl⟩
 have hv0:e0.val' pa cp none 0 none 0=.agg #[.string ic,.string us,.string ⟨#[]⟩,.bool false,.string ⟨#[]⟩,.int .i64 (100+(k:Int) % 7),.slice pa pl.length cp,.slice none 0 0,.string ⟨#[]⟩,.slice none 0 0]:=by
  have et:(100+(k:Int) % 7)=100+((k % 7:Nat):Int):=by omega
  rw [he0,Hic.out,Hus.out,et,hpll,hL];rfl
 have hk2:=hT.g.a.dw.1.nx;obtain ⟨k1,k2,k3,k4,k5,k6,k7⟩:=cDr_keep bs m (nxQ m q) e0;obtain ⟨s1,s2,s3,s4⟩:=cDr_small (bs:=bs) (m:=m) (q:=nxQ m q) (e:=e0) hk2 (by rw [he0];exact usr_small _) (by rw [he0];show (⟨#[]⟩:ByteArray).size<=100;decide) (by rw [he0];show (⟨#[]⟩:ByteArray).size<=100;decide) (fun i=>by rw [he0];exact nZ (gM_small (fun x hx=>by cases hx) i) (by decide));obtain ⟨e1,he1⟩:∃ e1,e1=cDr bs m (nxQ m q) e0:=⟨_,rfl⟩;have hn1:e1.np=pl.length:=by rw [he1,k4,he0,hpll,hL];rfl
 have hn2:e1.Pv=getL pl:=by rw [he1,k5,he0,hpl,hL];rfl
 have hn3:e1.na=0:=by rw [he1,k6,he0];rfl
 have HCt:Hid (Calls Tryz.prog 125 #[.pointer (some ⟨p,0,none⟩),.agg #[.string ic,.string us,.string ⟨#[]⟩,.bool false,.string ⟨#[]⟩,.int .i64 (100+(k:Int) % 7),.slice pa pl.length cp,.slice none 0 0,.string ⟨#[]⟩,.slice none 0 0]] wr (CtP2 p wr bs m (cQr bs m (nxQ m q)) e1 pa cp)):=by
  have hc:=drawContent p e0 pa cp none 0 none 0 wr hT.g.a.dw.1;rw [hv0] at hc;refine hc.mono ?_;rintro x w' ⟨ga,cg,rfl,hg,hd⟩;rw [<- he1] at hg;refine ⟨ga,cg,by rw [<- he1,<- hn3],?_,hd⟩;rcases hg with ⟨rfl,rfl,q3,q4,q5⟩|hg
  ·have q6:e1.ng=0:=by rw [q3,he0];rfl
   rw [q6];exact OwnG.nil _ _ _ _
  exact hg
 have hz1:e1.id.size<=maxLen:=by rw [he1,k1,he0];show (gwId k n).size<=maxLen;rw [<- Hic.out];unfold maxLen;omega
 have hz2:e1.sd.size<=maxLen:=by rw [he1,k2,he0];exact nZ (usr_small _) (by decide)
 have hz3:e1.ty.size<=maxLen∧e1.key.size<=maxLen∧e1.val.size<=maxLen∧∀ i,(e1.M i).size<=maxLen:=by
  rw [he1];exact ⟨nZ s1 (by decide),nZ s2 (by decide),nZ s3 (by decide),fun i=>nZ (s4 i) (by decide)⟩
 have HEv1:Hid (∀ W ga cg,OwnL W (B+1) (.slice pa pl.length cp) pl->OwnG W (B+1) (.slice ga e1.ng cg) e1.ng e1.M e1.L->EvOk W e1 pa cp none 0 ga cg):=fun W ga cg h1 h2=>⟨hz1,hz2,hz3.1,hz3.2.1,hz3.2.2.1,by rw [hn1,hn2];exact (OwnL.sls h1 Hids.out).2,by rw [hn3];exact ⟨nL,by decide,fun i hi=>absurd hi (Nat.not_lt_zero _),Or.inl rfl⟩,h2.slg (fun i _=>hz3.2.2.2 i)⟩
 have He1:Hid (e1=gw1 bs m q E n):=by unfold Hid gw1;rw [he1,he0,Hk.out]
 have y0:wr.cell? ⟨B,0,none⟩=some (.string ic):=hT.g.b 0 (by decide);have y1:wr.cell? ⟨B,1,none⟩=some (.string us):=hT.g.b 1 (by decide);have y2:wr.cell? ⟨B,2,none⟩=some (.string ⟨#[]⟩):=hT.g.b 2 (by decide);have y3:wr.cell? ⟨B,3,none⟩=some (.bool false):=hT.g.b 3 (by decide);have y4:wr.cell? ⟨B,4,none⟩=some (.string ⟨#[]⟩):=hT.g.b 4 (by decide);have y5:wr.cell? ⟨B,5,none⟩=some (.int .i64 (100+(k:Int) % 7)):=hT.g.b 5 (by decide);have y6:wr.cell? ⟨B,6,none⟩=some (.slice pa pl.length cp):=hT.g.b 6 (by decide);have y7:wr.cell? ⟨B,7,none⟩=some (.slice none 0 0):=hT.g.b 7 (by decide);have y8:wr.cell? ⟨B,8,none⟩=some (.string ⟨#[]⟩):=hT.g.b 8 (by decide);have y9:wr.cell? ⟨B,9,none⟩=some (.slice none 0 0):=hT.g.b 9 (by decide);have HTr:Hid (GwT p w wr bs m (nxQ m q) (.slice (some ⟨be,oe,none⟩) n cap) B (fun o=>if o=6 then (.slice pa pl.length cp) else (#[.string ic,.string us,.string ⟨#[]⟩,.bool false,.string ⟨#[]⟩,.int .i64 (100+(k:Int) % 7),.slice none 0 0,.slice none 0 0,.string ⟨#[]⟩,.slice none 0 0]:Array Value)[o]?.getD undef) pl (.slice sa vs.length ss) vs):=hT;have hBr:=hT.g.hi;have Hn1:Hid (e1.np=pl.length):=hn1;have Hn2:Hid (e1.Pv=getL pl):=hn2;have Hvll:Hid (vs.length=L.length):=hvll;have hv3:vs.length<=3:=by omega
 have hp3:pl.length<=3:=by omega
 have Hn3:Hid (e1.na=0):=hn3;have HL:Hid (L=gwL k n (gwC k)):=hL;clear hT hV hEv hSt hids hor hsp hv0 k1 k2 k3 k4 k5 k6 k7 s1 s2 s3 s4 hz1 hz2 hz3 hn2 hn1 hn3 he1 he0 hk2 hLn hpl hvs hL hpll hvll hL3
 go_wp2_with fail
 refine HCt.out.mono ?_;rintro x w8 ⟨ga,cg,rfl,hgr,hdw⟩;clear HCt y0 y1 y2 y3 y4 y5 y6 y7 y8 y9;have hT8:=HTr.out.draw hp hdw;have Hg8:Hid (OwnG w8 (B+1) (.slice ga e1.ng cg) e1.ng e1.M e1.L):=ownsRow_lo hgr hBr;have HT8:Hid (GwT p w w8 bs m (cQr bs m (nxQ m q)) (.slice (some ⟨be,oe,none⟩) n cap) B (fun o=>if o=6 then (.slice pa pl.length cp) else (#[.string ic,.string us,.string ⟨#[]⟩,.bool false,.string ⟨#[]⟩,.int .i64 (100+(k:Int) % 7),.slice none 0 0,.slice none 0 0,.string ⟨#[]⟩,.slice none 0 0]:Array Value)[o]?.getD undef) pl (.slice sa vs.length ss) vs):=hT8;have z0:w8.cell? ⟨B,0,none⟩=some (.string ic):=hT8.g.b 0 (by decide);have z1:w8.cell? ⟨B,1,none⟩=some (.string us):=hT8.g.b 1 (by decide);have z2:w8.cell? ⟨B,2,none⟩=some (.string ⟨#[]⟩):=hT8.g.b 2 (by decide);have z3:w8.cell? ⟨B,3,none⟩=some (.bool false):=hT8.g.b 3 (by decide);have z4:w8.cell? ⟨B,4,none⟩=some (.string ⟨#[]⟩):=hT8.g.b 4 (by decide);have z5:w8.cell? ⟨B,5,none⟩=some (.int .i64 (100+(k:Int) % 7)):=hT8.g.b 5 (by decide);have z6:w8.cell? ⟨B,6,none⟩=some (.slice pa pl.length cp):=hT8.g.b 6 (by decide);have z7:w8.cell? ⟨B,7,none⟩=some (.slice none 0 0):=hT8.g.b 7 (by decide);have z8:w8.cell? ⟨B,8,none⟩=some (.string ⟨#[]⟩):=hT8.g.b 8 (by decide);have z9:w8.cell? ⟨B,9,none⟩=some (.slice none 0 0):=hT8.g.b 9 (by decide);have f0:=hT8.g.f0 0;have f1:=hT8.g.f0 1;have f2:=hT8.g.f0 2;have f3:=hT8.g.f0 3;have f4:=hT8.g.f0 4;have f5:=hT8.g.f0 5;have f6:=hT8.g.f0 6;have f7:=hT8.g.f0 7;have f8:=hT8.g.f0 8;have f9:=hT8.g.f0 9;clear HTr hgr hdw hT8
 go_upto_region 18 with fail
 obtain ⟨w9,hw9⟩:∃ w9:World,w9=((((((((((w8.setCell ⟨B,0,none⟩ (.string e1.id)).setCell ⟨B,1,none⟩ (.string e1.sd)).setCell ⟨B,2,none⟩ (.string e1.ty)).setCell ⟨B,3,none⟩ (.bool e1.st)).setCell ⟨B,4,none⟩ (.string e1.key)).setCell ⟨B,5,none⟩ (.int .i64 e1.tm)).setCell ⟨B,6,none⟩ (.slice pa e1.np cp)).setCell ⟨B,7,none⟩ (.slice none 0 0)).setCell ⟨B,8,none⟩ (.string e1.val)).setCell ⟨B,9,none⟩ (.slice ga e1.ng cg)):=⟨_,rfl⟩;rw [<- hw9]
 have H9:Hid (GvB p w w9 bs m (cQr bs m (nxQ m q)) (.slice (some ⟨be,oe,none⟩) n cap) B (fun o=>(#[.string e1.id,.string e1.sd,.string e1.ty,.bool e1.st,.string e1.key,.int .i64 e1.tm,.slice pa e1.np cp,.slice none 0 0,.string e1.val,.slice ga e1.ng cg]:Array Value)[o]?.getD undef)):=by
  unfold Hid;rw [hw9];exact HT8.out.g.fill10 hp _ _ _ _ _ _ _ _ _ _
 have K9:Kb B w8 w9:=by rw [hw9];exact Kb.fill10 B w8 _ _ _ _ _ _ _ _ _ _
 have Ho9:Hid (OwnL w9 (B+1) (.slice pa pl.length cp) pl):=K9.row HT8.out.o (Nat.lt_succ_self B);have Hg9:Hid (OwnG w9 (B+1) (.slice ga e1.ng cg) e1.ng e1.M e1.L):=K9.row Hg8.out (Nat.lt_succ_self B);have r9:=K9.row HT8.out.r (Nat.lt_succ_self B);clear z0 z1 z2 z3 z4 z5 z6 z7 z8 z9 f0 f1 f2 f3 f4 f5 f6 f7 f8 f9 hw9 K9 HT8 Hg8;obtain ⟨hV9,hEv9,hSt9⟩:=HKh.out w9 H9.out.a.dw.2;obtain ⟨a9,c9,e9,hee⟩:=ownsRow_ee r9 (L:=fun i=>A (L.getD i 0)) (Aa:=fun i=>Aa (L.getD i 0)) (Ca:=fun i=>Ca (L.getD i 0)) Hvv.out (fun i hi=>(hSt9 _ (by have:=Hgd.out i hi;omega)).2);injection e9 with e91 _ e93
 subst e91 e93;have HRv:Hid (Calls Tryz.prog 126 #[.agg #[(.slice (some ⟨be,oe,none⟩) n cap)],.slice sa vs.length ss] w9 (RvPost w9 E n (fun i=>A (L.getD i 0)) vs.length)):=resolve_sl w9 Hroom.out (by omega) (fun i hi=>Hf.out _ (Hgd.out i hi)) hV9 hee
 have Hz:Hid (∀ j,j<n->(E j).ty.size<=maxLen∧(E j).key.size<=maxLen∧(E j).id.size<=maxLen):=fun j hj=>by
  obtain ⟨_,_,_,_,_,_,_,hk⟩:=hEv9 j hj;exact ⟨hk.hty,hk.hkey,hk.hid⟩
 have x9:=H9.out.a.r;clear hV9 hEv9 hSt9 hee r9
 go_wp2_with fail
 refine HRv.out.mono ?_;rintro x w10 ⟨v,l,rfl,hoE,hres,hb10⟩;clear HRv x9;have hfs:FitL E n l:=hres.fit Hroom.out (fun i hi=>Hf.out _ (Hgd.out i hi));have hl3:l.length<=300:=nZ (hfs.len Hroom.out) h300;obtain ⟨ta,tc,e10,hts⟩:=hoE.sl (fun i hi=>(hfs.ok Hz.out).at i hi);subst e10;have HtO:Hid (OwnE w10 (B+1) (.slice ta l.length tc) l):=ownsRow_lo hoE H9.out.hi;have Hres:Hid (ResR E n (fun i=>A (L.getD i 0)) vs.length l):=hres;have Hsz:Hid (∀ i,i<l.length->(eAt l i).ty.size<=maxLen∧(eAt l i).key.size<=maxLen∧(eAt l i).id.size<=maxLen):=fun i hi=>(hfs.ok Hz.out).at i hi
 have H10:Hid (GvB p w w10 bs m (cQr bs m (nxQ m q)) (.slice (some ⟨be,oe,none⟩) n cap) B (fun o=>(#[.string e1.id,.string e1.sd,.string e1.ty,.bool e1.st,.string e1.key,.int .i64 e1.tm,.slice pa e1.np cp,.slice none 0 0,.string e1.val,.slice ga e1.ng cg]:Array Value)[o]?.getD undef)):=H9.out.below hb10;have Ho10:Hid (OwnL w10 (B+1) (.slice pa pl.length cp) pl):=Ho9.out.below hb10;have Hg10:Hid (OwnG w10 (B+1) (.slice ga e1.ng cg) e1.ng e1.M e1.L):=Hg9.out.below hb10
 have HNd:Hid (Calls Tryz.prog 127 #[.agg #[.string e1.id,.string e1.sd,.string e1.ty,.bool e1.st,.string e1.key,.int .i64 e1.tm,.slice pa e1.np cp,.slice none 0 0,.string e1.val,.slice ga e1.ng cg]] w10 (NdPost w10 e1)):=by
  have:=ndS_any e1 w10 (HEv1.out w10 ga cg Ho10.out Hg10.out);rw [show e1.val' pa cp none 0 ga cg=.agg #[.string e1.id,.string e1.sd,.string e1.ty,.bool e1.st,.string e1.key,.int .i64 e1.tm,.slice pa e1.np cp,.slice none 0 0,.string e1.val,.slice ga e1.ng cg] by rw [<- Hn3.out]] at this;exact this
 have y0:w10.cell? ⟨B,0,none⟩=some (.string e1.id):=H10.out.b 0 (by decide);have y1:w10.cell? ⟨B,1,none⟩=some (.string e1.sd):=H10.out.b 1 (by decide);have y2:w10.cell? ⟨B,2,none⟩=some (.string e1.ty):=H10.out.b 2 (by decide);have y3:w10.cell? ⟨B,3,none⟩=some (.bool e1.st):=H10.out.b 3 (by decide);have y4:w10.cell? ⟨B,4,none⟩=some (.string e1.key):=H10.out.b 4 (by decide);have y5:w10.cell? ⟨B,5,none⟩=some (.int .i64 e1.tm):=H10.out.b 5 (by decide);have y6:w10.cell? ⟨B,6,none⟩=some (.slice pa e1.np cp):=H10.out.b 6 (by decide);have y7:w10.cell? ⟨B,7,none⟩=some (.slice none 0 0):=H10.out.b 7 (by decide);have y8:w10.cell? ⟨B,8,none⟩=some (.string e1.val):=H10.out.b 8 (by decide);have y9:w10.cell? ⟨B,9,none⟩=some (.slice ga e1.ng cg):=H10.out.b 9 (by decide);clear H9 Ho9 Hg9 hb10 hoE hres hfs hts Hz
 go_wp2_with fail
 refine HNd.out.mono ?_;rintro x w11 ⟨v2,rfl,hoO,hb11⟩;clear HNd y0 y1 y2 y3 y4 y5 y6 y7 y8 y9;obtain ⟨nd,hnd⟩:∃ nd,nd=ndL e1:=⟨_,rfl⟩;rw [<- hnd] at hoO;have hnl:nd.length<=8:=by rw [hnd];exact ndL_len e1
 have Hnd:Hid (nd=ndL e1):=hnd;obtain ⟨oa,oc,e11,hso⟩:=hoO.sl;subst e11;have hB11:B<w11.heap.size:=nT H10.out.hi hb11.size;have HoO:Hid (OwnO w11 (B+1) (.slice oa nd.length oc) nd):=ownsRow_lo hoO H10.out.hi;have HtE:Hid (OwnE w11 (B+1) (.slice ta l.length tc) l):=HtO.out.below hb11;have Ho11:Hid (OwnL w11 (B+1) (.slice pa pl.length cp) pl):=Ho10.out.below hb11;have Hg11:Hid (OwnG w11 (B+1) (.slice ga e1.ng cg) e1.ng e1.M e1.L):=Hg10.out.below hb11
 have HU0:Hid (GwU p w w11 bs m (cQr bs m (nxQ m q)) (.slice (some ⟨be,oe,none⟩) n cap) B (fun o=>(#[.string e1.id,.string e1.sd,.string e1.ty,.bool e1.st,.string e1.key,.int .i64 e1.tm,.slice pa e1.np cp,.slice none 0 0,.string e1.val,.slice ga e1.ng cg]:Array Value)[o]?.getD undef) w11 [] (.slice none 0 0)):=⟨(H10.out.below hb11).congr (fun o ho=>by
  by_cases e:o=7
  ·subst e;rfl
  rw [if_neg e]),Kb.refl _ _,OwnL.nil _ _,hB11⟩
 clear H10 Ho10 Hg10 HtO hb11 hoO hso hnd
 go_wp2_with fail
 go_loopw [17] (fun iv wq=>∃ j:Nat,j<=nd.length∧iv=.int .i64 (j:Int)∧∃ av,GwU p w wq bs m (cQr bs m (nxQ m q)) (.slice (some ⟨be,oe,none⟩) n cap) B (fun o=>(#[.string e1.id,.string e1.sd,.string e1.ty,.bool e1.st,.string e1.key,.int .i64 e1.tm,.slice pa e1.np cp,.slice none 0 0,.string e1.val,.slice ga e1.ng cg]:Array Value)[o]?.getD undef) w11 (auTo l nd j) av) (fun iv _=>nd.length - (intOf iv).toNat)
 case atStart=>exact ⟨0,nz,rfl,_,HU0.out⟩
 case round =>
  clear HU0;obtain ⟨j,hj,rfl,av,hU⟩:=hrel
  by_cases hlt2:j<nd.length
  ·have HU:Hid (GwU p w wr bs m (cQr bs m (nxQ m q)) (.slice (some ⟨be,oe,none⟩) n cap) B (fun o=>(#[.string e1.id,.string e1.sd,.string e1.ty,.bool e1.st,.string e1.key,.int .i64 e1.tm,.slice pa e1.np cp,.slice none 0 0,.string e1.val,.slice ga e1.ng cg]:Array Value)[o]?.getD undef) w11 (auTo l nd j) av):=hU
   have hoj:OwnO wr (B+1) (.slice oa nd.length oc) nd:=hU.k.row HoO.out (Nat.lt_succ_self B);have htj:OwnE wr (B+1) (.slice ta l.length tc) l:=hU.k.row HtE.out (Nat.lt_succ_self B);obtain ⟨oa',oc',eo,hso⟩:=hoj.sl;injection eo with eo1 _ eo3
   subst eo1 eo3;obtain ⟨ta',tc',et,hse⟩:=htj.sl Hsz.out;injection et with et1 _ et3
   subst et1 et3
   obtain ⟨ob,oo,ho0,hob,hc1,hc2⟩:∃ ob oo,oa=some ⟨ob,oo,none⟩∧ob<wr.heap.size∧(∀ i,i<nd.length->wr.cell? ⟨ob,oo+i * 2,none⟩=some (.string (eAt nd i).ty))∧(∀ i,i<nd.length->wr.cell? ⟨ob,oo+i * 2+1,none⟩=some (.string (eAt nd i).key)):=by
    rcases hso.cells with h0|h0
    ·have:nd.length=0:=by rw [h0];rfl
     omega
    exact h0
   subst ho0;have hcj1:=hc1 j hlt2;have hcj2:=hc2 j hlt2;obtain ⟨ty,hty⟩:∃ ty,ty=(eAt nd j).ty:=⟨_,rfl⟩;obtain ⟨ky,hky⟩:∃ ky,ky=(eAt nd j).key:=⟨_,rfl⟩;rw [<- hty] at hcj1;rw [<- hky] at hcj2;obtain ⟨fv,hfv⟩:∃ fv,fv=fdV l ty ky:=⟨_,rfl⟩;obtain ⟨fo,hfo⟩:∃ fo,fo=fdOk l ty ky:=⟨_,rfl⟩;have Hau:Hid (auTo l nd (j+1)=if fo=true then auTo l nd j ++ [fv] else auTo l nd j):=by unfold Hid;rw [hfo,hfv,hty,hky];rfl
   have HFd:Hid (∀ W,Below wr.heap.size wr W->Calls Tryz.prog 128 #[.slice ta l.length tc,.string ty,.string ky] W fun e w'=>e=.returned (.tuple #[.string fv,.bool fo])∧Below wr.heap.size wr w'):=fun W hW=>by
    refine (findS_sl ty ky W (hse.below hW)).mono ?_;rintro e w' ⟨rfl,hb⟩;exact ⟨by rw [hfv,hfo],hW.trans (hb.mono hW.size)⟩
   have HS:Hid (∀ W,Below wr.heap.size wr W->W.cell? ⟨ob,oo+j * 2,none⟩=some (.string ty)∧W.cell? ⟨ob,oo+j * 2+1,none⟩=some (.string ky)):=fun W hW=>⟨(hW.cell (p:=⟨ob,oo+j * 2,none⟩) (by exact hob)).trans hcj1,(hW.cell (p:=⟨ob,oo+j * 2+1,none⟩) (by exact hob)).trans hcj2⟩
   have hrf:Below wr.heap.size wr wr:=kB;have hj0':(0:Int)<=(j:Int):=by omega
   have hji:(j:Int)<(nd.length:Int):=by omega
   clear hU hoj htj hso hse hc1 hc2 hcj1 hcj2 hty hky hfv hfo
   go_upto_region 23 with fail
   go_cut [18,19] (fun a b wx=>a=.string fv∧b=.bool fo∧Below wr.heap.size wr wx)
   case first =>
    clear HKh Hroom Hf HU HoO HtE Ho11 Hg11 Hres;refine wp_region_held_drew (S:=fun W=>W.cell? ⟨ob,oo+j * 2,none⟩=some (.string ty)∧W.cell? ⟨ob,oo+j * 2+1,none⟩=some (.string ky)) (by kernel_rfl) ?_ (fun hHeld=>?_)
    ·(try dsimp only);exact HS.out _ (by with_reducible (repeat refine .drew ?_);exact hrf)
    refine tq 0 rfl ?_;simp only [si];refine tq 1 rfl ?_;simp only [si];refine tq 2 rfl ?_;simp only [si];refine tq 3 rfl ?_;simp only [si];refine tq 4 rfl ?_;simp only [si];refine tq 5 rfl ?_;simp only [si];refine tq 6 rfl ?_;simp only [si];refine tq 7 rfl ?_;simp only [si];refine tq 8 rfl ?_;simp only [si];refine tq 9 rfl ?_;simp only [si];refine tq 10 rfl ?_;simp only [si];refine rd 11 rfl fun K hK=>?_
    go_simp
    go_at_call 128
    refine (HFd.out _ (by with_reducible (repeat refine .drew ?_);exact hrf)).mono ?_;rintro e w2 ⟨rfl,hb2⟩;clear HFd;try dsimp only
    refine hK.out _ _ ?_ (fun hHeld=>?_)
    ·(try dsimp only);exact HS.out _ (by with_reducible (repeat refine .drew ?_);exact hb2)
    clear hK K;try simp only [si]
    refine tq 12 rfl ?_;simp only [si];refine tq 13 rfl ?_;simp only [si];refine tq 14 rfl ?_;simp only [si];refine tq 15 rfl ?_;simp only [si];refine tq 16 rfl ?_;simp only [si];refine wpAnyH_done (by kernel_rfl) ?_ _
    (try go_wp2_with fail)
    go_meet;exact ⟨rfl,rfl,by first|exact hb2|exact hb2.drew⟩
   case rest =>
    obtain ⟨rfl,rfl,hb12⟩:=hcut;obtain ⟨w12,hw12⟩:∃ w12:World,w12=wc:=⟨_,rfl⟩;subst hw12;have HU12:Hid (GwU p w w12 bs m (cQr bs m (nxQ m q)) (.slice (some ⟨be,oe,none⟩) n cap) B (fun o=>(#[.string e1.id,.string e1.sd,.string e1.ty,.bool e1.st,.string e1.key,.int .i64 e1.tm,.slice pa e1.np cp,.slice none 0 0,.string e1.val,.slice ga e1.ng cg]:Array Value)[o]?.getD undef) w11 (auTo l nd j) av):=HU.out.below hb12;clear HU HFd HS hb12 hrf;cases fo
    case false =>
     have HX:Hid (GwU p w w12 bs m (cQr bs m (nxQ m q)) (.slice (some ⟨be,oe,none⟩) n cap) B (fun o=>(#[.string e1.id,.string e1.sd,.string e1.ty,.bool e1.st,.string e1.key,.int .i64 e1.tm,.slice pa e1.np cp,.slice none 0 0,.string e1.val,.slice ga e1.ng cg]:Array Value)[o]?.getD undef) w11 (auTo l nd (j+1)) av):=by unfold Hid;rw [Hau.out,if_neg (by decide)];exact HU12.out
     clear HU12 Hau;go_wp2
     exact ⟨⟨j+1,by omega,by go_num,av,HX.out⟩,by simp [intOf];omega⟩
    case true =>
     have y7:w12.cell? ⟨B,7,none⟩=some av:=HU12.out.g.b 7 (by decide);have HO12:Hid (w12.ownsRow w11.heap.size 9 1 av (auTo l nd j).length ((auTo l nd j).map Value.string)):=HU12.out.o;have hal:=auTo_len l nd j;have hm1:(auTo l nd j).length+1<=maxLen:=by unfold maxLen;omega
     have hm2:((auTo l nd j).length+1) * 16<=140737488355328:=by omega
     have hwk:w11.heap.size<=w12.heap.size:=HU12.out.k.1
     have HG4:Hid (∀ w4,(w12.alloc (.cells #[.string fv] 9)).grownBy w4 av.ownBlock->w4.cell? ⟨B,7,none⟩=some av∧w4.frozen? ⟨B,7,none⟩=false):=fun w4 hg=>by
      have h1:=HU12.out.below (kB.alloc nL (.cells #[.string fv] 9));have h2:=h1.g.grow hp hg (fun b hb=>by have:=(ownsRow_blk h1.o b hb).1;omega);exact ⟨h2.b 7 (by decide),h2.f0 7⟩
     obtain ⟨aj,haj⟩:∃ aj,aj=auTo l nd j:=⟨_,rfl⟩;rw [<- haj] at HU12 HO12 hm1 hm2 Hau;clear haj hal
     go_wp2_with (at_builtin;refine wpList_append_lies _ rfl _ _ 27 rfl w11.heap.size 9 i0 (.string ByteArray.empty) 1 16 Tryz.underlying27 hi0 hz0 hz1 hz2 rfl (by decide) _ _ _ rfl (World.ownsRow.alloc HO12.out _) ⟨w12.heap.size,0,none⟩ 1 1 [.string fv] rfl rfl (one_cells _ _ _) (one_one _) (by decide) hm1 hm2 (by simp;omega) (w12.heap.size+1) (by simp) ?_;intro gg cq w4 hown4 hgr4 hat4 hlt4;have z7:=(HG4.out w4 hgr4).1;have f7:=(HG4.out w4 hgr4).2)
     have HX:=HU12.out.snoc hp bA hown4 hgr4;rw [show aj ++ [fv]=auTo l nd (j+1) by rw [Hau.out,if_pos rfl]] at HX;exact ⟨⟨j+1,by omega,by go_num,_,HX⟩,by simp [intOf];omega⟩
  rw [show j=nd.length by omega] at hU;obtain ⟨al,hal⟩:∃ al,al=auTo l nd nd.length:=⟨_,rfl⟩;rw [<- hal] at hU;have hal8:al.length<=8:=by rw [hal];exact nZ (auTo_len l nd _) hnl
  have hasz:∀ s ∈ al,s.size<=maxLen:=by rw [hal];exact auTo_size (fun i hi=>(Hsz.out i hi).2.2) _
  have Hal:Hid (al=auTo l nd nd.length):=hal;have hoa:OwnL wr w11.heap.size av al:=hU.o;obtain ⟨aa,ca,hav,_,_⟩:=hoa.sl hasz;subst hav;have Hasz:Hid (∀ s ∈ al,s.size<=maxLen):=hasz;have HU:Hid (GwU p w wr bs m (cQr bs m (nxQ m q)) (.slice (some ⟨be,oe,none⟩) n cap) B (fun o=>(#[.string e1.id,.string e1.sd,.string e1.ty,.bool e1.st,.string e1.key,.int .i64 e1.tm,.slice pa e1.np cp,.slice none 0 0,.string e1.val,.slice ga e1.ng cg]:Array Value)[o]?.getD undef) w11 al (.slice aa al.length ca)):=hU;have y7:wr.cell? ⟨B,7,none⟩=some (.slice aa al.length ca):=hU.g.b 7 (by decide);obtain ⟨cA,hcA⟩:∃ cA,cA=decide (al.length=0∨k % 32=31):=⟨_,rfl⟩;have HcA:Hid (cA=decide (al.length=0∨k % 32=31)):=hcA;clear hU hasz hoa hal hcA
  go_upto_region 26 with fail
  go_cut [156] (fun v wx=>v=.bool cA∧Below wr.heap.size wr wx)
  case first =>
   clear HKh Hroom Hf HU HoO HtE Ho11 Hg11 Hres;have hcA:=HcA.out
   by_cases h1:al.length=0
   ·have h1i:(al.length:Int)=0:=by omega
    have e1:cA=true:=by rw [hcA];exact decide_eq_true (Or.inl h1)
    clear hcA HcA;go_wp2
    go_meet;exact ⟨by rw [e1],kB⟩
   have h1i:¬ (al.length:Int)=0:=by omega
   have h1b:((al.length:Int) == 0)=false:=by simpa using h1i
   by_cases h2:k % 32=31
   ·have h2i:(k:Int) % 32=31:=by omega
    have e1:cA=true:=by rw [hcA];exact decide_eq_true (Or.inr h2)
    clear hcA HcA;go_wp2
    go_meet;exact ⟨by rw [e1],kB⟩
   have h2i:¬ (k:Int) % 32=31:=by omega
   have h2b:((k:Int) % 32 == 31)=false:=by simpa using h2i
   have e1:cA=false:=by rw [hcA];exact decide_eq_false (fun h=>h.elim h1 h2)
   clear hcA HcA;go_wp2
   go_meet;exact ⟨by rw [e1],kB⟩
  case rest =>
   obtain ⟨rfl,hb13⟩:=hcut;obtain ⟨w13,hw13⟩:∃ w13:World,w13=wc:=⟨_,rfl⟩;subst hw13;have HU13:Hid (GwU p w w13 bs m (cQr bs m (nxQ m q)) (.slice (some ⟨be,oe,none⟩) n cap) B (fun o=>(#[.string e1.id,.string e1.sd,.string e1.ty,.bool e1.st,.string e1.key,.int .i64 e1.tm,.slice pa e1.np cp,.slice none 0 0,.string e1.val,.slice ga e1.ng cg]:Array Value)[o]?.getD undef) w11 al (.slice aa al.length ca)):=HU.out.below hb13;clear HU hb13 y7;obtain ⟨i1,hi1⟩:∃ i1,i1=(E 0).id:=⟨_,rfl⟩;obtain ⟨al2,hal2⟩:∃ al2,al2=gwA k E al:=⟨_,rfl⟩
   have HA2:Hid (al2=if cA=true then [i1] else al):=by
    unfold Hid;rw [hal2,HcA.out,hi1];unfold gwA
    by_cases h:al.length=0∨k % 32=31
    ·rw [if_pos h,if_pos (decide_eq_true h)]
    rw [if_neg h,if_neg (by rw [decide_eq_false h];decide)]
   have Hal2:Hid (al2=gwA k E al):=hal2;obtain ⟨_,hEv,_⟩:=HKh.out w13 HU13.out.g.a.dw.2;obtain ⟨_,_,_,_,_,_,hec,hok⟩:=hEv 0 hn;have hc0:w13.cell? ⟨be,oe,none⟩=some (.string i1):=by have:=hec.c0;rw [<- hi1] at this;simpa using this
   have hi1z:i1.size<=maxLen:=by rw [hi1];exact hok.hid
   have hx0:=HU13.out.g.a.r;have z7:=(HU13.out.g.below (kB.alloc nL (.cells #[.string i1] 9))).b 7 (by decide);have f7:=(HU13.out.g.below (kB.alloc nL (.cells #[.string i1] 9))).f0 7;have hn0i:(0:Int)<(n:Int):=by omega
   clear hal2 hEv hec hok hi1
   go_upto_if 156 with fail
   go_cut [163] (fun _ wx=>∃ av2,GwU p w wx bs m (cQr bs m (nxQ m q)) (.slice (some ⟨be,oe,none⟩) n cap) B (fun o=>(#[.string e1.id,.string e1.sd,.string e1.ty,.bool e1.st,.string e1.key,.int .i64 e1.tm,.slice pa e1.np cp,.slice none 0 0,.string e1.val,.slice ga e1.ng cg]:Array Value)[o]?.getD undef) w11 al2 av2)
   case first =>
    clear HKh Hroom Hf HoO HtE Ho11 Hg11 Hres HcA;cases cA
    case true =>
     have HX:Hid (GwU p w ((w13.alloc (.cells #[.string i1] 9)).setCell ⟨B,7,none⟩ (.slice (some ⟨w13.heap.size,0,none⟩) 1 1)) bs m (cQr bs m (nxQ m q)) (.slice (some ⟨be,oe,none⟩) n cap) B (fun o=>(#[.string e1.id,.string e1.sd,.string e1.ty,.bool e1.st,.string e1.key,.int .i64 e1.tm,.slice pa e1.np cp,.slice none 0 0,.string e1.val,.slice ga e1.ng cg]:Array Value)[o]?.getD undef) w11 al2 (.slice (some ⟨w13.heap.size,0,none⟩) 1 1)):=by unfold Hid;rw [HA2.out,if_pos rfl];exact HU13.out.one hp i1
     clear HU13 HA2;go_wp2
     go_meet;exact ⟨_,HX.out⟩
    case false =>
     have HX:Hid (GwU p w w13 bs m (cQr bs m (nxQ m q)) (.slice (some ⟨be,oe,none⟩) n cap) B (fun o=>(#[.string e1.id,.string e1.sd,.string e1.ty,.bool e1.st,.string e1.key,.int .i64 e1.tm,.slice pa e1.np cp,.slice none 0 0,.string e1.val,.slice ga e1.ng cg]:Array Value)[o]?.getD undef) w11 al2 (.slice aa al.length ca)):=by unfold Hid;rw [HA2.out,if_neg (by decide)];exact HU13.out
     clear HU13 HA2;go_wp2
     go_meet;exact ⟨_,HX.out⟩
   case rest =>
    obtain ⟨av2,hU⟩:=hcut;obtain ⟨w14,hw14⟩:∃ w14:World,w14=wc:=⟨_,rfl⟩;subst hw14
    have hsz2:∀ t ∈ al2,t.size<=maxLen:=by
     rw [HA2.out];intro t ht;split at ht
     ·rw [List.mem_singleton] at ht;subst ht;exact hi1z
     exact Hasz.out t ht
    have hl8:al2.length<=8:=by
     rw [HA2.out];split
     ·simp
     exact hal8
    have hoa:OwnL w14 w11.heap.size av2 al2:=hU.o;obtain ⟨aa2,ca2,hav,hsa2,_⟩:=hoa.sl hsz2;subst hav;have HU14:Hid (GwU p w w14 bs m (cQr bs m (nxQ m q)) (.slice (some ⟨be,oe,none⟩) n cap) B (fun o=>(#[.string e1.id,.string e1.sd,.string e1.ty,.bool e1.st,.string e1.key,.int .i64 e1.tm,.slice pa e1.np cp,.slice none 0 0,.string e1.val,.slice ga e1.ng cg]:Array Value)[o]?.getD undef) w11 al2 (.slice aa2 al2.length ca2)):=hU;obtain ⟨n1,hn1'⟩:∃ n1,n1=n - 1:=⟨_,rfl⟩;have hn1n:n1<n:=by omega
    have en:(n:Int) - 1=(n1:Int):=by omega
    have ew:IntKind.i64.wrap ((n:Int) - 1)=(n1:Int):=by rw [IntKind.wrap_i64];omega
    have ew2:IntKind.i64.wrap (n1:Int)=(n1:Int):=by rw [IntKind.wrap_i64];omega
    have hn1i:(n1:Int)<(n:Int):=by omega
    have hn10:(0:Int)<=(n1:Int):=by omega
    obtain ⟨ix,hix⟩:∃ ix,ix=(E n1).id:=⟨_,rfl⟩
    have HSg:Hid (∀ W,GvA p w W bs m (cQr bs m (nxQ m q)) (.slice (some ⟨be,oe,none⟩) n cap)->W.cell? ⟨w.heap.size,0,none⟩=some (.slice (some ⟨be,oe,none⟩) n cap)∧W.cell? ⟨be,oe+n1 * 10,none⟩=some (.string ix)):=fun W hW=>by
     obtain ⟨_,hEv,_⟩:=HKh.out W hW.dw.2;obtain ⟨_,_,_,_,_,_,hec,_⟩:=hEv n1 hn1n;exact ⟨hW.r,by rw [hix];exact hec.c0⟩
    have hixz:ix.size<=maxLen:=by
     obtain ⟨_,hEv,_⟩:=HKh.out w14 hU.g.a.dw.2;obtain ⟨_,_,_,_,_,_,_,hok⟩:=hEv n1 hn1n;rw [hix];exact hok.hid
    obtain ⟨hv,hhv⟩:∃ hv,hv=hasB (getL al2) al2.length ix:=⟨_,rfl⟩;obtain ⟨cB,hcB⟩:∃ cB,cB=decide (k % 16=7∧hv=false):=⟨_,rfl⟩;obtain ⟨al3,hal3⟩:∃ al3,al3=gwB k n E al2:=⟨_,rfl⟩
    have HA3:Hid (al3=if cB=true then al2 ++ [ix] else al2):=by
     unfold Hid;rw [hal3,hcB,hhv,hix,hn1'];unfold gwB
     by_cases h:k % 16=7∧hasB (getL al2) al2.length (E (n - 1)).id=false
     ·rw [if_pos h,if_pos (decide_eq_true h)]
     rw [if_neg h,if_neg (by rw [decide_eq_false h];decide)]
    have Hal3:Hid (al3=gwB k n E al2):=hal3;have HHas:Hid (∀ W,Below w14.heap.size w14 W->Calls Tryz.prog 105 #[.slice aa2 al2.length ca2,.string ix] W fun e w'=>e=.returned (.bool hv)∧w'=W):=fun W hW=>by rw [hhv];exact has_sl ix W (hsa2.below hW)
    have HS:Hid (∀ W,Below w14.heap.size w14 W->W.cell? ⟨w.heap.size,0,none⟩=some (.slice (some ⟨be,oe,none⟩) n cap)∧W.cell? ⟨be,oe+n1 * 10,none⟩=some (.string ix)∧W.cell? ⟨B,7,none⟩=some (.slice aa2 al2.length ca2)):=fun W hW=>by
     have h1:=HU14.out.below hW;have h2:=HSg.out W h1.g.a;exact ⟨h2.1,h2.2,h1.g.b 7 (by decide)⟩
    have hrf:Below w14.heap.size w14 w14:=kB;have HcB:Hid (cB=decide (k % 16=7∧hv=false)):=hcB;have Hsz2:Hid (∀ t ∈ al2,t.size<=maxLen):=hsz2;clear hU hsz2 hoa hsa2 hix hhv hcB hal3 hn1' hc0 hx0 z7 f7 HU13
    go_upto_region 28 with fail
    go_cut [179] (fun v wx=>v=.bool cB∧Below w14.heap.size w14 wx)
    case first =>
     clear HKh Hroom Hf HoO HtE Ho11 Hg11 Hres HSg HU14 HA3 HA2;have hcB:=HcB.out
     by_cases h7:k % 16=7
     ·have e7:(k:Int).tmod 16=7:=by rw [Int.tmod_eq_emod_of_nonneg (by omega)];omega
      have ec:cB=!hv:=by rw [hcB];cases hv <;> simp [h7]
      clear hcB HcB;refine wp_region_held_drew (S:=fun W=>W.cell? ⟨w.heap.size,0,none⟩=some (.slice (some ⟨be,oe,none⟩) n cap)∧W.cell? ⟨be,oe+n1 * 10,none⟩=some (.string ix)∧W.cell? ⟨B,7,none⟩=some (.slice aa2 al2.length ca2)) (by kernel_rfl) ?_ (fun hHeld=>?_)
      ·(try dsimp only);exact HS.out _ (by with_reducible (repeat refine .drew ?_);exact hrf)
      refine tq 0 rfl ?_;simp only [si];refine tq 1 rfl ?_;simp only [si];refine tq 2 rfl ?_;simp only [si];refine tq 3 rfl ?_;simp only [si];refine tq 4 rfl ?_;simp only [si];refine tq 5 rfl ?_;simp only [si];refine tq 6 rfl ?_;simp only [si];refine tq 7 rfl ?_;simp only [si];refine tq 8 rfl ?_;simp only [si];refine tq 9 rfl ?_;simp only [si];refine tq 10 rfl ?_;simp only [si];refine tq 11 rfl ?_;simp only [si];refine tq 12 rfl ?_;simp only [si];refine rd 13 rfl fun K hK=>?_
      go_simp
      go_at_call 105
      refine (HHas.out _ (by with_reducible (repeat refine .drew ?_);exact hrf)).mono ?_;rintro e w2 ⟨rfl,rfl⟩;clear HHas;try dsimp only
      refine hK.out _ _ ?_ (fun hHeld=>?_)
      ·(try dsimp only);exact HS.out _ (by with_reducible (repeat refine .drew ?_);exact hrf)
      clear hK K;try simp only [si]
      refine tq 14 rfl ?_;simp only [si];refine tq 15 rfl ?_;simp only [si];refine wpAnyH_done (by kernel_rfl) ?_ _
      (try go_wp2_with fail)
      go_meet;exact ⟨by rw [ec],by first|exact hrf|exact hrf.drew⟩
     have e7:¬ (k:Int).tmod 16=7:=by rw [Int.tmod_eq_emod_of_nonneg (by omega)];omega
     have e7b:((k:Int).tmod 16 == 7)=false:=by simpa using e7
     have ec:cB=false:=by rw [hcB];simp [h7]
     clear hcB HcB HHas;refine wp_region_held_drew (S:=fun W=>W.cell? ⟨w.heap.size,0,none⟩=some (.slice (some ⟨be,oe,none⟩) n cap)∧W.cell? ⟨be,oe+n1 * 10,none⟩=some (.string ix)∧W.cell? ⟨B,7,none⟩=some (.slice aa2 al2.length ca2)) (by kernel_rfl) ?_ (fun hHeld=>?_)
     ·(try dsimp only);exact HS.out _ (by with_reducible (repeat refine .drew ?_);exact hrf)
     refine tq 0 rfl ?_;simp only [si];refine tq 1 rfl ?_;simp only [si];refine tq 2 rfl ?_;simp only [si];refine tq 3 rfl ?_;simp only [si];refine tk 4 undef rfl (Or.inr ⟨by rfl,rfl⟩) ?_;simp only [si];refine tk 5 undef rfl (Or.inr ⟨by rfl,rfl⟩) ?_;simp only [si];refine tk 6 undef rfl (Or.inr ⟨by rfl,rfl⟩) ?_;simp only [si];refine tk 7 undef rfl (Or.inr ⟨by rfl,rfl⟩) ?_;simp only [si];refine tk 8 undef rfl (Or.inr ⟨by rfl,rfl⟩) ?_;simp only [si];refine tk 9 undef rfl (Or.inr ⟨by rfl,rfl⟩) ?_;simp only [si];refine tk 10 undef rfl (Or.inr ⟨by rfl,rfl⟩) ?_;simp only [si];refine tk 11 undef rfl (Or.inr ⟨by rfl,rfl⟩) ?_;simp only [si];refine tk 12 undef rfl (Or.inr ⟨by rfl,rfl⟩) ?_;simp only [si];refine tk 13 undef rfl (Or.inr ⟨by rfl,rfl⟩) ?_;simp only [si];refine tk 14 undef rfl (Or.inr ⟨by rfl,rfl⟩) ?_;simp only [si];refine tq 15 rfl ?_;simp only [si];refine wpAnyH_done (by kernel_rfl) ?_ _
     (try go_wp2_with fail)
     go_meet;exact ⟨by rw [ec],by first|exact hrf|exact hrf.drew⟩
    case rest =>
     obtain ⟨rfl,hb15⟩:=hcut;obtain ⟨w15,hw15⟩:∃ w15:World,w15=wc:=⟨_,rfl⟩;subst hw15;have HU15:Hid (GwU p w w15 bs m (cQr bs m (nxQ m q)) (.slice (some ⟨be,oe,none⟩) n cap) B (fun o=>(#[.string e1.id,.string e1.sd,.string e1.ty,.bool e1.st,.string e1.key,.int .i64 e1.tm,.slice pa e1.np cp,.slice none 0 0,.string e1.val,.slice ga e1.ng cg]:Array Value)[o]?.getD undef) w11 al2 (.slice aa2 al2.length ca2)):=HU14.out.below hb15;clear HU14 hb15 HHas HS hrf
     go_upto_if 179 with fail
     go_cut [191] (fun _ wx=>∃ av3,GwU p w wx bs m (cQr bs m (nxQ m q)) (.slice (some ⟨be,oe,none⟩) n cap) B (fun o=>(#[.string e1.id,.string e1.sd,.string e1.ty,.bool e1.st,.string e1.key,.int .i64 e1.tm,.slice pa e1.np cp,.slice none 0 0,.string e1.val,.slice ga e1.ng cg]:Array Value)[o]?.getD undef) w11 al3 av3)
     case first =>
      clear HKh Hroom Hf HoO HtE Ho11 Hg11 Hres HA2 HcB;cases cB
      case true =>
       have HA4:Hid (al3=al2 ++ [ix]):=by have:=HA3.out;rw [if_pos rfl] at this;exact this
       clear HA3;have hA15:=HU15.out.g.a;have y7:w15.cell? ⟨B,7,none⟩=some (.slice aa2 al2.length ca2):=HU15.out.g.b 7 (by decide);have y7b:(w15.alloc (.cells #[.string ix] 9)).cell? ⟨B,7,none⟩=some (.slice aa2 al2.length ca2):=(HU15.out.g.below bA).b 7 (by decide);have HO:Hid (∀ W,Below w15.heap.size w15 W->W.ownsRow w11.heap.size 9 1 (.slice aa2 al2.length ca2) al2.length (al2.map Value.string)):=fun W hW=>(HU15.out.below hW).o
       have hm1:al2.length+1<=maxLen:=by unfold maxLen;omega
       have hm2:(al2.length+1) * 16<=140737488355328:=by omega
       have hwk:w11.heap.size<=w15.heap.size:=HU15.out.k.1
       go_upto_region 29 with fail
       refine wp_region_held_drew (S:=fun W=>W.cell? ⟨w.heap.size,0,none⟩=some (.slice (some ⟨be,oe,none⟩) n cap)∧W.cell? ⟨be,oe+n1 * 10,none⟩=some (.string ix)) (by kernel_rfl) ?_ (fun hHeld=>?_)
       ·(try dsimp only);exact HSg.out _ (hA15.below (by first|with_reducible exact kB|with_reducible exact kB.drew|with_reducible exact kB.drew.drew|with_reducible exact kB.drew.drew.drew))
       refine tq 0 rfl ?_;simp only [si];refine tq 2 rfl ?_;simp only [si];refine tq 3 rfl ?_;simp only [si];refine tq 4 rfl ?_;simp only [si];refine tq 5 rfl ?_;simp only [si];refine tq 6 rfl ?_;simp only [si];refine tq 7 rfl ?_;simp only [si];refine tq 8 rfl ?_;simp only [si];refine wpAnyH_ready (rs:=[1,9]) (by kernel_rfl) (by simp) ?_;refine AllReadyH.cons rfl (fun K hK=>?_) (AllReadyH.cons rfl (fun K hK=>?_) AllReadyH.nil)
       ·go_simp
        refine hK.out _ _ ?_ (fun hHeld=>?_)
        ·(try dsimp only);exact HSg.out _ (hA15.below (by first|with_reducible exact kB|with_reducible exact kB.drew|with_reducible exact kB.drew.drew|with_reducible exact kB.drew.drew.drew))
        clear hK K;try simp only [si]
        refine rd 9 rfl fun K hK=>?_
        go_simp;refine hK.out _ _ ?_ (fun hHeld=>?_)
        ·(try dsimp only);exact HSg.out _ (hA15.below (by first|exact bA|exact bA.drew|exact kB.drew.alloc nL _|exact (kB.drew.alloc nL _).drew))
        clear hK K;try simp only [si]
        refine rd 10 rfl fun K hK=>?_
        refine step_append_lies _ (by rfl) _ _ _ (by rfl) w11.heap.size 9 i0 _ 1 16 Tryz.underlying27 hi0 hz0 hz1 hz2 rfl (by decide) (.slice aa2 al2.length ca2) al2.length (al2.map Value.string) (by rfl) (HO.out _ (by first|exact bA|exact bA.drew|exact kB.drew.alloc nL _|exact (kB.drew.alloc nL _).drew)) ⟨w15.heap.size,0,none⟩ 1 1 [.string ix] (by rfl) (by rfl) (one_cells _ _ _) (one_one _) (by decide) hm1 hm2 (by simp;omega) (w15.heap.size+1) (by simp) ?_;intro gg cq w4 hown4 hgr4 hat4 hlt4;have hG4:=(HU15.out.g.below (by first|exact bA|exact bA.drew|exact kB.drew.alloc nL _|exact (kB.drew.alloc nL _).drew)).grow hp hgr4 (fun b hb=>by have:=(ownsRow_blk (HO.out w15 kB) b hb).1;omega);have z7:w4.cell? ⟨B,7,none⟩=some (.slice aa2 al2.length ca2):=hG4.b 7 (by decide);have f7:=hG4.f0 7;refine hK.out _ _ ?_ (fun hHeld=>?_)
        ·(try dsimp only);exact HSg.out _ (by first|exact hG4.a|exact hG4.a.below kB.drew)
        clear hK K;try simp only [si]
        refine tq 11 rfl ?_;simp only [si];refine rd 12 rfl fun K hK=>?_
        go_simp;refine hK.out _ _ ?_ (fun hHeld=>?_)
        ·(try dsimp only);exact HSg.out _ (by first|exact (hG4.set hp 7 (by decide) _).a|exact (hG4.set hp 7 (by decide) _).a.below kB.drew)
        clear hK K;try simp only [si]
        refine wpAnyH_done (by kernel_rfl) ?_ _
        (try go_wp2_with fail)
        go_meet;have hS:=HU15.out.snoc (X:=_) hp (by first|exact bA|exact bA.drew|exact kB.drew.alloc nL _|exact (kB.drew.alloc nL _).drew) hown4 hgr4;rw [<- HA4.out] at hS;exact ⟨_,by first|with_reducible exact hS|with_reducible exact hS.below kB.drew⟩
       go_simp;refine hK.out _ _ ?_ (fun hHeld=>?_)
       ·(try dsimp only);exact HSg.out _ (hA15.below (by first|exact bA|exact bA.drew|exact kB.drew.alloc nL _|exact (kB.drew.alloc nL _).drew))
       clear hK K;try simp only [si]
       refine rd 1 rfl fun K hK=>?_
       go_simp;refine hK.out _ _ ?_ (fun hHeld=>?_)
       ·(try dsimp only);exact HSg.out _ (hA15.below (by first|exact bA|exact bA.drew|exact kB.drew.alloc nL _|exact (kB.drew.alloc nL _).drew))
       clear hK K;try simp only [si]
       refine rd 10 rfl fun K hK=>?_
       refine step_append_lies _ (by rfl) _ _ _ (by rfl) w11.heap.size 9 i0 _ 1 16 Tryz.underlying27 hi0 hz0 hz1 hz2 rfl (by decide) (.slice aa2 al2.length ca2) al2.length (al2.map Value.string) (by rfl) (HO.out _ (by first|exact bA|exact bA.drew|exact kB.drew.alloc nL _|exact (kB.drew.alloc nL _).drew)) ⟨w15.heap.size,0,none⟩ 1 1 [.string ix] (by rfl) (by rfl) (one_cells _ _ _) (one_one _) (by decide) hm1 hm2 (by simp;omega) (w15.heap.size+1) (by simp) ?_;intro gg cq w4 hown4 hgr4 hat4 hlt4;have hG4:=(HU15.out.g.below (by first|exact bA|exact bA.drew|exact kB.drew.alloc nL _|exact (kB.drew.alloc nL _).drew)).grow hp hgr4 (fun b hb=>by have:=(ownsRow_blk (HO.out w15 kB) b hb).1;omega);have z7:w4.cell? ⟨B,7,none⟩=some (.slice aa2 al2.length ca2):=hG4.b 7 (by decide);have f7:=hG4.f0 7;refine hK.out _ _ ?_ (fun hHeld=>?_)
       ·(try dsimp only);exact HSg.out _ (by first|exact hG4.a|exact hG4.a.below kB.drew)
       clear hK K;try simp only [si]
       refine tq 11 rfl ?_;simp only [si];refine rd 12 rfl fun K hK=>?_
       go_simp;refine hK.out _ _ ?_ (fun hHeld=>?_)
       ·(try dsimp only);exact HSg.out _ (by first|exact (hG4.set hp 7 (by decide) _).a|exact (hG4.set hp 7 (by decide) _).a.below kB.drew)
       clear hK K;try simp only [si]
       refine wpAnyH_done (by kernel_rfl) ?_ _
       (try go_wp2_with fail)
       go_meet;have hS:=HU15.out.snoc (X:=_) hp (by first|exact bA|exact bA.drew|exact kB.drew.alloc nL _|exact (kB.drew.alloc nL _).drew) hown4 hgr4;rw [<- HA4.out] at hS;exact ⟨_,by first|with_reducible exact hS|with_reducible exact hS.below kB.drew⟩
      case false =>
       have HX:Hid (GwU p w w15 bs m (cQr bs m (nxQ m q)) (.slice (some ⟨be,oe,none⟩) n cap) B (fun o=>(#[.string e1.id,.string e1.sd,.string e1.ty,.bool e1.st,.string e1.key,.int .i64 e1.tm,.slice pa e1.np cp,.slice none 0 0,.string e1.val,.slice ga e1.ng cg]:Array Value)[o]?.getD undef) w11 al3 (.slice aa2 al2.length ca2)):=by unfold Hid;rw [HA3.out,if_neg (by decide)];exact HU15.out
       clear HU15 HA3 HSg;go_wp2
       go_meet;exact ⟨_,HX.out⟩
     case rest =>
      obtain ⟨av3,hU⟩:=hcut;obtain ⟨w16,hw16⟩:∃ w16:World,w16=wc:=⟨_,rfl⟩;subst hw16
      have hsz3:∀ t ∈ al3,t.size<=maxLen:=by
       rw [HA3.out];intro t ht;split at ht
       ·rcases List.mem_append.1 ht with ht|ht
        ·exact Hsz2.out t ht
        rw [List.mem_singleton] at ht;subst ht;exact hixz
       exact Hsz2.out t ht
      have hoa:OwnL w16 w11.heap.size av3 al3:=hU.o;obtain ⟨aa3,ca3,hav,hsa3,_⟩:=hoa.sl hsz3;subst hav;have HU16:Hid (GwU p w w16 bs m (cQr bs m (nxQ m q)) (.slice (some ⟨be,oe,none⟩) n cap) B (fun o=>(#[.string e1.id,.string e1.sd,.string e1.ty,.bool e1.st,.string e1.key,.int .i64 e1.tm,.slice pa e1.np cp,.slice none 0 0,.string e1.val,.slice ga e1.ng cg]:Array Value)[o]?.getD undef) w11 al3 (.slice aa3 al3.length ca3)):=hU
      have HF:Hid (∀ W',Kb (w.heap.size+1) w16 W'->DwF p w W' bs m (cQr bs m (nxQ m q))->GwPost p w bs m q E n A (.returned (.agg #[.string e1.id,.string e1.sd,.string e1.ty,.bool e1.st,.string e1.key,.int .i64 e1.tm,.slice pa e1.np cp,.slice aa3 al3.length ca3,.string e1.val,.slice ga e1.ng cg])) W'):=fun W' hK hD=>by
       have he:gwE bs m q E n l={ e1 with na:=al3.length,Av:=getL al3 }:=by
        unfold gwE;rw [<- He1.out,<- Hnd.out,<- Hk.out,<- Hal.out,<- Hal2.out,<- Hal3.out]
       have hsh:=HU16.out.k;have hE:=HEv1.out W' ga cg (hK.row (hsh.row Ho11.out (Nat.lt_succ_self B)) (by omega)) (hK.row (hsh.row Hg11.out (Nat.lt_succ_self B)) (by omega));have hS:=(OwnL.sls (hK.row hoa (by have:=HU16.out.lo;omega)) hsz3).2;refine ⟨_,pa,cp,aa3,ca3,ga,cg,⟨l,?_,rfl⟩,?_,?_,?_,?_,hD⟩
       ·rw [<- Hk.out,<- HL.out,<- Hvll.out];exact Hres.out
       ·rw [he]
       ·rw [he];exact ⟨hE.hid,hE.hsd,hE.hty,hE.hkey,hE.hval,hE.hp,hS,hE.hg⟩
       ·rw [he];exact ⟨by show LoS pa e1.np _;rw [Hn1.out];exact own_lo Ho11.out (by omega),own_lo hoa (by have:=HU16.out.lo;omega),own_lo Hg11.out (by omega)⟩
       rw [he];refine ⟨?_,?_,?_,fun b h1 h2=>?_⟩
       ·show OwnT W' w.heap.size (.slice pa e1.np cp) e1.np e1.Pv
        rw [Hn1.out,Hn2.out];exact OwnL.tt (rowLo (hK.row (hsh.row Ho11.out (Nat.lt_succ_self B)) (by omega)) (by omega))
       ·exact OwnL.tt (rowLo (hK.row hoa (by have:=HU16.out.lo;omega)) (by have:=HU16.out.lo;omega))
       ·exact rowLo (hK.row (hsh.row Hg11.out (Nat.lt_succ_self B)) (by omega)) (by omega)
       have h3:=(ownsRow_blk Ho11.out b (by rw [<- Hn1.out];exact h1)).2;have h4:=(ownsRow_blk hoa b h2).1;omega
      have b0:w16.cell? ⟨B,0,none⟩=some (.string e1.id):=HU16.out.g.b 0 (by decide);have b1:w16.cell? ⟨B,1,none⟩=some (.string e1.sd):=HU16.out.g.b 1 (by decide);have b2:w16.cell? ⟨B,2,none⟩=some (.string e1.ty):=HU16.out.g.b 2 (by decide);have b3:w16.cell? ⟨B,3,none⟩=some (.bool e1.st):=HU16.out.g.b 3 (by decide);have b4:w16.cell? ⟨B,4,none⟩=some (.string e1.key):=HU16.out.g.b 4 (by decide);have b5:w16.cell? ⟨B,5,none⟩=some (.int .i64 e1.tm):=HU16.out.g.b 5 (by decide);have b6:w16.cell? ⟨B,6,none⟩=some (.slice pa e1.np cp):=HU16.out.g.b 6 (by decide);have b7:w16.cell? ⟨B,7,none⟩=some (.slice aa3 al3.length ca3):=HU16.out.g.b 7 (by decide);have b8:w16.cell? ⟨B,8,none⟩=some (.string e1.val):=HU16.out.g.b 8 (by decide);have b9:w16.cell? ⟨B,9,none⟩=some (.slice ga e1.ng cg):=HU16.out.g.b 9 (by decide);obtain ⟨v0,z0⟩:=HU16.out.g.a.z 0 (by decide);obtain ⟨v1,z1⟩:=HU16.out.g.a.z 1 (by decide);obtain ⟨v2,z2⟩:=HU16.out.g.a.z 2 (by decide);obtain ⟨v3,z3⟩:=HU16.out.g.a.z 3 (by decide);obtain ⟨v4,z4⟩:=HU16.out.g.a.z 4 (by decide);obtain ⟨v5,z5⟩:=HU16.out.g.a.z 5 (by decide);obtain ⟨v6,z6⟩:=HU16.out.g.a.z 6 (by decide);obtain ⟨v7,z7⟩:=HU16.out.g.a.z 7 (by decide);obtain ⟨v8,z8⟩:=HU16.out.g.a.z 8 (by decide);obtain ⟨v9,z9⟩:=HU16.out.g.a.z 9 (by decide);have f1:=HU16.out.g.a.f1;have hdw:=HU16.out.g.a.dw;have HD:Hid (DwF p w w16 bs m (cQr bs m (nxQ m q))):=hdw;clear hU hsz3 hoa hsa3 HKh Hroom Hf HoO HtE Ho11 Hg11 Hres HA3 HA2 HU15 HSg HEv1 HU16 hdw;go_wp2
      refine bodyPost_ret (v:=.agg #[.string e1.id,.string e1.sd,.string e1.ty,.bool e1.st,.string e1.key,.int .i64 e1.tm,.slice pa e1.np cp,.slice aa3 al3.length ca3,.string e1.val,.slice ga e1.ng cg]) (by simp [results,Tryz.results64,go_sem,z0,z1,z2,z3,z4,z5,z6,z7,z8,z9]) rfl (HF.out _ (Kb.fill10 (w.heap.size+1) w16 _ _ _ _ _ _ _ _ _ _) ?_)
      (repeat (refine DwF.own ?_ (by first|exact nL|exact Nat.le_add_right _ _) hp _ _))
      exact HD.out
end Go.Proofs.YtkdalopokdhndaaGreat
